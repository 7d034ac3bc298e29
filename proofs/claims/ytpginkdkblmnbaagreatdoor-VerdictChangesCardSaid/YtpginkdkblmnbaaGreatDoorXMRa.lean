import Derived.Test.YtpginkdkblmnbaaGreatDoorChecked
import Derived.WalkKit
import Derived.WalkSpells
import Derived.WalkLawsBesides
import Derived.Outline
import Derived.Below
import Derived.Laws.OwnMore
import Derived.Laws.Rows
import Derived.Deep.Draws
import Derived.Deep.AppendLies
import Derived.Deep.Onto
import Derived.Maps.AppendAt
import Derived.Lib.Hide
import Derived.OwnWalk
import Derived.Test.YtpginkdkblmnbaaGreatDoorXMPa
import Derived.Test.YtpginkdkblmnbaaGreatDoorXMRf
import Derived.Maps.OwnSet
import Derived.Maps.Views
import Derived.Sort.LotA
import Derived.StillTailTactics
namespace Go.Proofs.YtpginkdkblmnbaaGreatDoor
section
open Go.RowKit
theorem Ů {B : Nat} {a w w1 : World} {o : Obj} (h : Below B a w) (hB : B ≤ w.heap.size) (h1 : Below (w.alloc o).heap.size (w.alloc o) w1) : Below B a w1 :=
 (h.alloc hB o).trans (h1.mono (by simp; omega))
theorem Below.drewN' {B : Nat} {a w : World} (h : Below B a w) (n : Nat) : Below B a (w.drewN n) := ⟨h.os, h.tape, h.output, h.size, h.block⟩
theorem Ã {P : Program} {e : TypeId} {z : Value} {s b : Nat} (h : (P.info? e).map (fun i => (i.zero, i.size, i.bytes)) = some (some z, s, b)) : ∃ i, P.info? e = some i ∧ i.zero = some z ∧ i.size = s ∧ i.bytes = b := by
 obtain ⟨i, hi, h⟩ := Option.map_eq_some_iff.1 h;simp only [Prod.mk.injEq] at h;exact ⟨i, hi, h.1, h.2.1, h.2.2⟩
section
variable {w w' : World} {g : Nat} {t : TypeId} {cs : Array Value}
end
def zI (l : List Int) : List Value := l.map (Value.int .i64)
theorem Îy {l : List Int} {i : Nat} {u : Int} (h : l[i]? = some u) : (zI l)[i]? = some (.int .i64 u) := by simp [zI, h]
section
variable {P : Program} (w : World)
end
end
section
structure Ru where
 id : Int
 pr : Int
 ac : Int
 sc : Int
 pat : ByteArray
def Ru.cells (r : Ru) : List Value := [.int .i64 r.id, .int .i64 r.pr, .int .i64 r.ac, .int .i64 r.sc, .string r.pat]
def Ru.val (r : Ru) : Value := .agg #[.int .i64 r.id, .int .i64 r.pr, .int .i64 r.ac, .int .i64 r.sc, .string r.pat]
def Ru.none : Ru := ⟨0, 0, 0, 0, .empty⟩
theorem Ru.inj {r s : Ru} (h : r.val = s.val) : r = s := by
 cases r; cases s; simp [Ru.val] at h; simpa using h
def Ru.ok (r : Ru) : Bool := decide (1 ≤ r.id ∧ r.id ≤ 1099511627776 ∧ 0 ≤ r.pr ∧ r.pr ≤ 1000 ∧ 0 ≤ r.ac ∧ r.ac ≤ 255 ∧ 1 ≤ r.sc ∧ r.sc ≤ 65535 ∧ r.pat.size ≤ 256)
structure RS where
 de : Int
 cl : Int
 fu : Int
 st : Int
 rs : List Ru
def RS.zero : RS := ⟨0, 0, 0, 0, []⟩
def RS.first : RS := ⟨0, 255, 10000, 500, []⟩
def RS.num (s : RS) : Bool := decide (0 ≤ s.de ∧ s.de ≤ 255 ∧ 0 ≤ s.cl ∧ s.cl ≤ 255 ∧ 1 ≤ s.fu ∧ s.fu ≤ 1048576 ∧ 0 ≤ s.st ∧ s.st ≤ 4096)
abbrev ť (l : List Ru) : Prop := l.Pairwise fun a b => a.id < b.id
def RS.Ok (s : RS) : Prop := s.num = true ∧ s.rs.length ≤ 16 ∧ (∀ r ∈ s.rs, r.ok = true) ∧ ť s.rs
instance (s : RS) : Decidable s.Ok := by unfold RS.Ok; infer_instance
structure Dl where
 de : Int
 cl : Int
 fu : Int
 st : Int
 put : List Ru
 drop : List Int
def orK (n keep : Int) : Int := if n = -1 then keep else n
def Ÿ (s : RS) (d : Dl) : RS := ⟨orK d.de s.de, orK d.cl s.cl, orK d.fu s.fu, orK d.st s.st, []⟩
def ins (r : Ru) (l : List Ru) : List Ru := l.filter (fun x => decide (x.id < r.id)) ++ r :: l.filter (fun x => decide (r.id < x.id))
def Äg (i : Int) (l : List Ru) : List Ru := l.filter fun x => decide (x.id ≠ i)
def drops (l : List Ru) (ids : List Int) : List Ru := l.filter fun x => decide (x.id ∉ ids)
def puts (l : List Ru) (p : List Ru) : List Ru := p.foldl (fun l r => ins r l) l
def Dl.ids (d : Dl) : List Int := d.put.map Ru.id ++ d.drop
def after (s : RS) (d : Dl) : List Ru := puts (drops s.rs d.drop) d.put
def Õ (s : RS) (d : Dl) : RS × Int :=
 if ¬ s.Ok then (.zero, 10) else
 if (Ÿ s d).num = false ∨ ∃ r ∈ d.put, r.ok = false then (.zero, 30) else
 if ¬ d.ids.Nodup then (.zero, 31) else
 if ∃ i ∈ d.drop, i ∉ s.rs.map Ru.id then (.zero, 32) else
 if 16 < (after s d).length then (.zero, 33) else ({ Ÿ s d with rs := after s d }, 0)
theorem Ít {r x : Ru} {l : List Ru} : x ∈ ins r l ↔ x = r ∨ (x ∈ l ∧ x.id ≠ r.id) := by
 unfold ins;simp only [Ė, ė, List.mem_filter, decide_eq_true_eq];constructor
 ·rintro (⟨h, hl⟩ | rfl | ⟨h, hl⟩)
  ·exact .inr ⟨h, by omega⟩
  ·exact .inl rfl
  ·exact .inr ⟨h, by omega⟩
 ·rintro (rfl | ⟨h, hl⟩)
  ·exact .inr (.inl rfl)
  ·rcases Int.lt_or_gt_of_ne hl with h' | h'
   ·exact .inl ⟨h, h'⟩
   ·exact .inr (.inr ⟨h, h'⟩)
theorem ť.ins {r : Ru} {l : List Ru} (h : ť l) : ť (ins r l) := by
 unfold Go.Proofs.YtpginkdkblmnbaaGreatDoor.ins
 refine List.pairwise_append.2 ⟨h.filter _, List.pairwise_cons.2 ⟨fun x hx => ?_, h.filter _⟩, fun x hx y hy => ?_⟩
 ·exact of_decide_eq_true (List.mem_filter.1 hx).2
 ·have h1 : x.id < r.id := of_decide_eq_true (List.mem_filter.1 hx).2
  rcases List.mem_cons.1 hy with rfl | hy
  ·exact h1
  ·have h2 : r.id < y.id := of_decide_eq_true (List.mem_filter.1 hy).2
   omega
theorem ť.puts {l : List Ru} (h : ť l) : ∀ (p : List Ru), ť (puts l p) := by
 intro p
 induction p generalizing l with
 | nil => exact h
 | cons r p ih => exact ih h.ins
theorem ť.drops {l : List Ru} (h : ť l) (ids : List Int) : ť (drops l ids) := h.filter _
theorem Çt : ∀ {l l' : List Ru}, ť l → ť l' → (∀ x, x ∈ l ↔ x ∈ l') → l = l'
 | [], [], _, _, _ => rfl
 | [], y :: _, _, _, h => by have := (h y).2 (List.mem_cons_self ..); simp at this
 | x :: _, [], _, _, h => by have := (h x).1 (List.mem_cons_self ..); simp at this
 | x :: l, y :: l', h1, h2, h => by
  obtain ⟨a1, a2⟩ := List.pairwise_cons.1 h1;obtain ⟨b1, b2⟩ := List.pairwise_cons.1 h2
  have e : x = y := by
   rcases List.mem_cons.1 ((h x).1 (List.mem_cons_self ..)) with e | hx
   ·exact e
   ·rcases List.mem_cons.1 ((h y).2 (List.mem_cons_self ..)) with e | hy
    ·exact e.symm
    ·have := b1 x hx; have := a1 y hy; omega
  subst e
  congr 1
  refine Çt a2 b2 fun z => ⟨fun hz => ?_, fun hz => ?_⟩
  ·rcases List.mem_cons.1 ((h z).1 (List.mem_cons_of_mem _ hz)) with e | h'
   ·have := a1 z hz; rw [e] at this; omega
   ·exact h'
  ·rcases List.mem_cons.1 ((h z).2 (List.mem_cons_of_mem _ hz)) with e | h'
   ·have := b1 z hz; rw [e] at this; omega
   ·exact h'
theorem ËW {l : List Ru} (h : ť l) {x y : Ru} (hx : x ∈ l) (hy : y ∈ l) (e : x.id = y.id) : x = y := by
 induction l with
 | nil => simp at hx
 | cons z l ih =>
  obtain ⟨a1, a2⟩ := List.pairwise_cons.1 h
  rcases List.mem_cons.1 hx with ex | hx'
  ·rcases List.mem_cons.1 hy with ey | hy'
   ·rw [ex, ey]
   ·have := a1 y hy'; rw [ex] at e; omega
  ·rcases List.mem_cons.1 hy with ey | hy'
   ·have := a1 x hx'; rw [ey] at e; omega
   ·exact ih a2 hx' hy'
theorem ÊE (l : List Ru) : drops l [] = l := by simp [drops]
theorem ÈG (l : List Ru) (ids : List Int) (i : Int) : drops l (ids ++ [i]) = Äg i (drops l ids) := by
 unfold drops Äg;rw [List.filter_filter];apply List.filter_congr;intro x _;simp only [Ė, Ĉ, not_or, ne_eq];rw [Bool.eq_iff_iff];simp [and_comm]
theorem Âv {l : List Ru} {ids : List Int} {i : Int} (h : i ∉ ids) : i ∈ (drops l ids).map Ru.id ↔ i ∈ l.map Ru.id := by
 simp only [drops, List.mem_map, List.mem_filter, decide_eq_true_eq];constructor
 ·rintro ⟨r, ⟨a, _⟩, e⟩; exact ⟨r, a, e⟩
 ·rintro ⟨r, a, e⟩; exact ⟨r, ⟨a, by rw [e]; exact h⟩, e⟩
theorem ËX (l : List Ru) : puts l [] = l := rfl
theorem ÅJ (l : List Ru) (p : List Ru) (r : Ru) : puts l (p ++ [r]) = ins r (puts l p) := by simp [puts, List.foldl_append]
def ruR (v : Value) : Option (DataW Ru × List MemPlace) :=
 match v with
 | .agg a => (match a.toList with | [.int .i64 i, .int .i64 p, .int .i64 c, .int .i64 s, .string t] => some (.held ⟨i, p, c, s, t⟩, []) | _ => none)
 | _ => none
theorem Íu (r : Ru) : ruR r.val = some (.held r, []) := rfl
theorem Êe {v : Value} {z : DataW Ru × List MemPlace} (h : ruR v = some z) : ∃ r : Ru, v = r.val ∧ z = (.held r, []) := by
 unfold ruR at h;split at h
 ·rename_i a
  split at h
  ·rename_i i p c s t e
   refine ⟨⟨i, p, c, s, t⟩, ?_, by cases h; rfl⟩
   unfold Ru.val
   congr 1
   exact Array.toList_inj.1 e
  ·cases h
 ·cases h
def dm (l : List Ru) : DataW Ru := .map (l.map fun r => (.int .i64 r.id, .held r))
theorem Äz {r : Ru} : ∀ {l : List Ru}, ť l → DataW.insert ((.int .i64 r.id : Lit), (.held r : DataW Ru)) ((Äg r.id l).map fun x => ((.int .i64 x.id : Lit), (.held x : DataW Ru))) = (ins r l).map fun x => (.int .i64 x.id, .held x)
 | [], _ => rfl
 | x :: l, h => by
  obtain ⟨a1, a2⟩ := List.pairwise_cons.1 h;have ih := Äz a2 (r := r)
  by_cases e : x.id = r.id
  ·have g : Äg r.id (x :: l) = Äg r.id l := by simp [Äg, e]
   have i : ins r (x :: l) = ins r l := by simp [ins, e]
   rw [g, i]; exact ih
  ·have g : Äg r.id (x :: l) = x :: Äg r.id l := by simp [Äg, e]
   rw [g, List.map_cons];unfold DataW.insert
   by_cases hlt : r.id < x.id
   ·have hg : Äg r.id l = l := List.filter_eq_self.2 fun y hy => by have := a1 y hy; simp; omega
    have h1 : l.filter (fun y => decide (y.id < r.id)) = [] := List.filter_eq_nil_iff.2 fun y hy => by have := a1 y hy; simp; omega
    have h2 : l.filter (fun y => decide (r.id < y.id)) = l := List.filter_eq_self.2 fun y hy => by have := a1 y hy; simp; omega
    simp only [Lit.before, decide_eq_true_eq, hlt, if_true, hg];simp [ins, h1, h2, hlt, Int.lt_asymm hlt]
   ·have hlt' : x.id < r.id := by omega
    simp only [Lit.before, decide_eq_true_eq, hlt, if_false, ih];simp [ins, hlt', hlt]
theorem ËY {l : List Ru} (h : ť l) (r : Ru) : (dm l).put (.int .i64 r.id) (.held r) = dm (ins r l) := by
 show DataW.map (DataW.insert _ (List.filter _ (List.map _ l))) = DataW.map _
 rw [← Äz h, Äg, List.filter_map]
 congr 4
 funext x;simp [Lit.sameKey]
theorem Îz (l : List Ru) (i : Int) : (dm l).del (.int .i64 i) = dm (Äg i l) := by
 show DataW.map (List.filter _ (List.map _ l)) = DataW.map (List.map _ (List.filter _ l))
 rw [List.filter_map]
 congr 3
 funext x;simp [Lit.sameKey]
theorem Êf (l : List Ru) : Maps.size (dm l) = l.length := by simp [dm, Maps.size]
theorem ËZ (l : List Ru) (i : Int) : Maps.has (dm l) (.int .i64 i) = decide (i ∈ l.map Ru.id) := by
 unfold dm;rw [Maps.has_eq, List.any_map, Bool.eq_iff_iff];simp [Lit.sameKey]
def ÎA (l : List Ru) (i : Int) : Ru := (l.find? fun x => decide (x.id = i)).getD .none
theorem Ìa (l : List Ru) (i : Int) : (dm l).atKey (.int .i64 i) (.held .none) = .held (ÎA l i) := by
 unfold dm DataW.atKey ÎA;simp only [List.find?_map]
 have : ((fun p : Lit × DataW Ru => p.1.sameKey (.int .i64 i)) ∘ fun r : Ru => ((.int .i64 r.id : Lit), (.held r : DataW Ru))) = fun x : Ru => decide (x.id = i) := by
  funext x; simp [Lit.sameKey]
 rw [this]
 cases l.find? fun x => decide (x.id = i) <;> rfl
end
section
theorem Äk {r : Ru} {l : List Ru} (h : ∀ x ∈ l, x.id < r.id) : ins r l = l ++ [r] := by
 unfold ins
 rw [List.filter_eq_self.2 fun x hx => by simpa using h x hx, List.filter_eq_nil_iff.2 fun x hx => by have := h x hx; simp; omega]
theorem Ìb {r x : Ru} {l : List Ru} (h : ∀ y ∈ l, y.id < r.id) (e : x.id = r.id) : ins r (l ++ [x]) = l ++ [r] := by
 rw [← Äk h];unfold ins;rw [List.filter_append, List.filter_append];simp [e]
theorem ÅK {r x : Ru} {l : List Ru} (h : r.id < x.id) : ins r (l ++ [x]) = ins r l ++ [x] := by
 unfold ins;rw [List.filter_append, List.filter_append]
 have : ¬ x.id < r.id := by omega
 simp [h, this]
theorem Êg (r : Ru) (l : List Ru) : (ins r l).length ≤ l.length + 1 := by
 unfold ins;rw [ă, ć]
 have h1 : (l.filter fun x => decide (x.id < r.id)).length + (l.filter fun x => !decide (x.id < r.id)).length = l.length := by
  induction l with
  | nil => rfl
  | cons x l ih =>
   by_cases h : x.id < r.id
   ·simp [h] at ih ⊢; omega
   ·simp [h] at ih ⊢; omega
 have h2 : (l.filter fun x => decide (r.id < x.id)).length ≤ (l.filter fun x => !decide (x.id < r.id)).length := by
  have : (l.filter fun x => decide (r.id < x.id)) = (l.filter fun x => !decide (x.id < r.id)).filter fun x => decide (r.id < x.id) := by
   rw [List.filter_filter];apply List.filter_congr;intro x _
   by_cases h : r.id < x.id
   ·have : ¬ x.id < r.id := by omega
    simp [h, this]
   ·simp [h]
  rw [this];exact List.length_filter_le _ _
 omega
theorem Ìc (p : List Ru) : ∀ (l : List Ru), (puts l p).length ≤ l.length + p.length := by
 induction p with
 | nil => intro l; simp [puts]
 | cons r p ih => intro l; have h1 := ih (ins r l); have h2 := Êg r l; simp only [puts, List.foldl_cons, ć] at h1 ⊢; omega
theorem ÄA {l : List Int} {x : Int} : (l ++ [x]).Nodup ↔ l.Nodup ∧ x ∉ l := by
 rw [List.nodup_append];constructor
 ·rintro ⟨h1, _, h3⟩
  exact ⟨h1, fun h => h3 x h x (by simp) rfl⟩
 ·rintro ⟨h1, h2⟩
  exact ⟨h1, by simp, fun a ha b hb e => by rw [List.mem_singleton.1 hb] at e; exact h2 (e ▸ ha)⟩
def ÀZ (l : List Int) : List Lit := l.map fun i => .int .i64 i
theorem ÈH (u : DataW Unit) : ∀ (l : List Int), Maps.size (Maps.setOf u (ÀZ l)) ≤ l.length ∧ (Maps.size (Maps.setOf u (ÀZ l)) = l.length ↔ l.Nodup) := by
 intro l;generalize hn : l.length = n
 induction n generalizing l with
 | zero =>
  obtain rfl := ď hn;simp [ÀZ, Maps.setOf, Maps.size]
 | succ n ih =>
  rcases List.eq_nil_or_concat l with rfl | ⟨m, x, rfl⟩
  ·simp at hn
  ·have hm : m.length = n := by simpa using hn
   obtain ⟨i1, i2⟩ := ih m hm
   have hk : ∀ y ∈ ÀZ m, WideAt.IsKeyLit y := fun y hy => by obtain ⟨z, _, rfl⟩ := List.mem_map.1 hy; trivial
   have e : Maps.setOf u (ÀZ (m ++ [x])) = (Maps.setOf u (ÀZ m)).put (.int .i64 x) u := by
    rw [ÀZ, Ĕ]; exact Maps.setOf_snoc u _ _
   rw [List.concat_eq_append, e, Maps.size_put (Maps.tidy_setOf u _ hk), Maps.has_setOf u _ _ hk, ÄA]
   have hany : (ÀZ m).any (fun y => y.sameKey (.int .i64 x)) = decide (x ∈ m) := by
    rw [Bool.eq_iff_iff];simp [ÀZ, Lit.sameKey]
   rw [hany]
   by_cases h : x ∈ m
   ·simp only [h, decide_true, if_true, not_true, and_false, iff_false]
    omega
   ·simp only [h, decide_false, not_false_eq_true, and_true, ← i2]
    rw [if_neg (by simp)]
    omega
end
section
variable {l : List Ru} {hs : Ru → Bool}
end
section
open Go.RowKit
variable {w w' : World}
def Ķ (l : List Ru) : List Value := l.flatMap Ru.cells
theorem ÀK (a b : List Ru) : Ķ (a ++ b) = Ķ a ++ Ķ b := by simp [Ķ]
theorem ÁP : ∀ (l : List Ru) (i k : Nat) (r : Ru), l[i]? = some r → k < 5 → (Ķ l)[i * 5 + k]? = r.cells[k]?
 | [], i, k, r, h, _ => by simp at h
 | x :: l, 0, k, r, h, hk => by
  simp at h;subst h;rw [Nat.zero_mul, ĉ]
  show (x.cells ++ Ķ l)[k]? = _
  exact List.getElem?_append_left (by simp [Ru.cells]; omega)
 | x :: l, i + 1, k, r, h, hk => by
  have := ÁP l i k r (by simpa using h) hk
  show (x.cells ++ Ķ l)[(i + 1) * 5 + k]? = _
  rw [List.getElem?_append_right (by simp [Ru.cells]; omega), ← this]
  congr 1
  simp [Ru.cells];omega
theorem ÈI (r : Ru) : ∀ y ∈ r.cells, y.oneCell' = true := by
 intro y hy;simp [Ru.cells] at hy
 rcases hy with rfl | rfl | rfl | rfl | rfl <;> rfl
def Ág (w : World) (b o : Nat) (r : Ru) : Prop :=
 w.cell? ⟨b, o, none⟩ = some (.int .i64 r.id) ∧ w.cell? ⟨b, o + 1, none⟩ = some (.int .i64 r.pr) ∧ w.cell? ⟨b, o + 2, none⟩ = some (.int .i64 r.ac) ∧ w.cell? ⟨b, o + 3, none⟩ = some (.int .i64 r.sc) ∧ w.cell? ⟨b, o + 4, none⟩ = some (.string r.pat)
theorem Ág.below {n₀ b o : Nat} {r : Ru} (h : Ág w b o r) (hb : b < n₀) (hB : Below n₀ w w') : Ág w' b o r :=
 ⟨(hB.cell (p := ⟨b, o, none⟩) hb).trans h.1, (hB.cell (p := ⟨b, o + 1, none⟩) hb).trans h.2.1, (hB.cell (p := ⟨b, o + 2, none⟩) hb).trans h.2.2.1, (hB.cell (p := ⟨b, o + 3, none⟩) hb).trans h.2.2.2.1, (hB.cell (p := ⟨b, o + 4, none⟩) hb).trans h.2.2.2.2⟩
def Á (n₀ : Nat) (w : World) (v : Value) (l : List Ru) : Prop :=
 ∃ A cap, v = .slice A l.length cap ∧ l.length ≤ cap ∧ (l ≠ [] → ∃ b off, A = some ⟨b, off, none⟩ ∧ b < n₀ ∧ ∀ i r, l[i]? = some r → Ág w b (off + i * 5) r)
theorem Á.below {n₀ : Nat} {v : Value} {l : List Ru} (h : Á n₀ w v l) (hB : Below n₀ w w') : Á n₀ w' v l := by
 obtain ⟨A, cap, hv, hc, h⟩ := h
 exact ⟨A, cap, hv, hc, fun hs => by
  obtain ⟨b, off, hA, hb, ht⟩ := h hs
  exact ⟨b, off, hA, hb, fun i r hr => (ht i r hr).below hb hB⟩⟩
theorem Á.more {n₀ n₁ : Nat} {v : Value} {l : List Ru} (h : Á n₀ w v l) (hn : n₀ ≤ n₁) : Á n₁ w v l := by
 obtain ⟨A, cap, hv, hc, h⟩ := h
 exact ⟨A, cap, hv, hc, fun hs => by
  obtain ⟨b, off, hA, hb, ht⟩ := h hs
  exact ⟨b, off, hA, by omega, ht⟩⟩
theorem Á.on {v : Value} {l : List Ru} (h : Á w.heap.size w v l) (hB : Below w.heap.size w w') : Á w'.heap.size w' v l := (h.below hB).more hB.size
theorem Á.nil (n₀ : Nat) (w : World) : Á n₀ w (.slice none 0 0) [] := ⟨none, 0, rfl, ŋ _, fun h => absurd rfl h⟩
theorem Á.at_ {n₀ n cap k : Nat} {A : Option Addr} {l : List Ru} (h : Á n₀ w (.slice A n cap) l) (hk : k < l.length) :
 ∃ b off, A = some ⟨b, off, none⟩ ∧ b < n₀ ∧ Ág w b (off + k * 5) l[k] := by
 obtain ⟨A', cap', hv, _, h⟩ := h
 have : A = A' := by injection hv
 subst this
 obtain ⟨b, off, hA, hb, ht⟩ := h (by rintro rfl; simp at hk)
 exact ⟨b, off, hA, hb, ht k l[k] (Ā hk)⟩
theorem Á.form {n₀ : Nat} {v : Value} {l : List Ru} (h : Á n₀ w v l) : ∃ A cap, v = .slice A l.length cap := by
 obtain ⟨A, cap, hv, _⟩ := h;exact ⟨A, cap, hv⟩
def Ú (w : World) (base : Nat) (e : TypeId) (v : Value) (l : List Ru) : Prop := w.ownsRow base e 5 v l.length (Ķ l)
theorem Ú.nil (w : World) (base : Nat) (e : TypeId) : Ú w base e (.slice none 0 0) [] := World.ownsRow_nil _ _ _ _
theorem Ú.set {base : Nat} {e : TypeId} {v : Value} {l : List Ru} (h : Ú w base e v l) : Á w.heap.size w v l := by
 have h0 := h;unfold Ú at h
 rcases h.2 with ⟨hv, hn⟩ | ⟨g, cap, cur, hv, _, _, hnc, _⟩
 ·obtain rfl : l = [] := List.length_eq_zero_iff.1 hn
  subst hv;exact Á.nil _ _
 ·subst hv
  refine ⟨_, cap, rfl, hnc, fun _ => ⟨g, 0, rfl, (h.lt g rfl).2, fun i r hr => ?_⟩⟩
  have hadd : ∀ j, (⟨g, 0, none⟩ : Addr).add j = ⟨g, 0 + j, none⟩ := fun j => by unfold Addr.add; split <;> simp_all
  have c : ∀ k u, k < 5 → r.cells[k]? = some u → w.cell? ⟨g, 0 + (i * 5 + k), none⟩ = some u := fun k u hk hu => by
   have := h.cells (g := g) rfl _ _ ((ÁP l i k r hr hk).trans hu)
   rwa [hadd] at this
  exact ⟨c 0 _ (by omega) rfl, c 1 _ (by omega) rfl, c 2 _ (by omega) rfl, c 3 _ (by omega) rfl, c 4 _ (by omega) rfl⟩
theorem Ú.on {base : Nat} {e : TypeId} {v : Value} {l : List Ru} (h : Ú w base e v l) (hB : Below w.heap.size w w') : Ú w' base e v l :=
 ã h fun i hi => hB.block i (World.ownsRow.lt h i hi.symm).2
theorem Ú.alloc {base : Nat} {e : TypeId} {v : Value} {l : List Ru} (h : Ú w base e v l) (o : Obj) : Ú (w.alloc o) base e v l := World.ownsRow.alloc h o
section
variable {P : Program} (w : World)
theorem ð {ops : Array Oper} {rest : List Oper} {o : Oper} {a : Act} {Q : Exit → Act → World → Prop} (hgd : o.guard = none) (s x : Operand) (t : TypeId)
 (ho : o.op = .call { callee := .builtin .append, args := #[s, x], argTypes := #[t, t] })
 (base : Nat) (e : TypeId) (i : TypeInfo) (z : Value) (bytes : Nat) (ht : P.underlying t = some (.slice e)) (hi : P.info? e = some i) (hz : i.zero = some z)
 (hsize : i.size = 5) (hby : i.bytes = bytes) (hzs : z.cells.size = 5) (v : Value) (xs : List Ru) (hs : a.eval s = v) (hown : Ú w base e v xs)
 (b c : Nat) (r : Ru) (hx : a.eval x = .slice (some ⟨b, 0, none⟩) 1 c) (hr : Blk w b e #[.int .i64 r.id, .int .i64 r.pr, .int .i64 r.ac, .int .i64 r.sc, .string r.pat]) (h63 : xs.length + 1 ≤ 1000000) (hbytes : bytes ≤ 100) (hbase : base ≤ w.heap.size)
 (h : ∀ v' w', Ú w' base e v' (xs ++ [r]) → w.grownBy w' v.ownBlock → wpList P ops Q rest (a.put o.dst v') w') : wpList P ops Q (o :: rest) a w := by
 have hm : (xs.length + 1) * bytes ≤ 1000000 * 100 := Nat.mul_le_mul h63 hbytes
 refine wpList_append_own w hgd s x t ho base e i z 5 bytes ht hi hz hsize hby hzs (by decide) v xs.length (Ķ xs) hs hown ⟨b, 0, none⟩ 1 c r.cells hx rfl (fun j u hu => ?_) (ÈI r) (by unfold maxLen; omega) (by omega) hbase fun v' w' h1 h2 _ => h v' w' ?_ h2
 ·have hadd : (⟨b, 0, none⟩ : Addr).add j = ⟨b, 0 + j, none⟩ := by unfold Addr.add; split <;> simp_all
  rw [hadd, ĉ, hr.cell j, ← hu];rw [Ru.cells, ← List.getElem?_toArray]
 ·unfold Ú
  rw [ă, ÀK, show Ķ [r] = r.cells by simp [Ķ]]
  exact h1
end
end
section
open Go.RowKit
variable {w w' : World}
theorem ş (n lo hi : Int) (w : World) : Calls Tryz.prog 49 #[.int .i64 n, .int .i64 lo, .int .i64 hi] w fun e w' => e = .returned (.bool (decide (lo ≤ n ∧ n ≤ hi))) ∧ w' = w := by
 go_enter Tryz.func49, Tryz.ntmps49
 by_cases h1 : lo ≤ n
 ·by_cases h2 : n ≤ hi
  ·rw [decide_eq_true ⟨h1, h2⟩]
   go_wp2;go_ret;exact ⟨rfl, rfl⟩
  ·rw [decide_eq_false (fun h => h2 h.2)]
   go_wp2;go_ret;exact ⟨rfl, rfl⟩
 ·rw [decide_eq_false (fun h => h1 h.1)]
  go_wp2;go_ret;exact ⟨rfl, rfl⟩
set_option maxRecDepth 100000 in
set_option maxHeartbeats 2000000 in
theorem Âz (r : Ru) (w : World) : Calls Tryz.prog 51 #[.agg #[.int .i64 r.id, .int .i64 r.pr, .int .i64 r.ac, .int .i64 r.sc, .string r.pat]] w fun e w' => e = .returned (.bool r.ok) ∧ Below w.heap.size w w' := by
 obtain ⟨id, pr, ac, sc, pat⟩ := r;simp only;have hb := (ā w.heap.size w).alloc (ŋ _) (.cells #[.int .i64 id, .int .i64 pr, .int .i64 ac, .int .i64 sc, .string pat] 71);have HB := ħ hb;clear hb;obtain ⟨k, hk⟩ : ∃ k, k = Ru.ok ⟨id, pr, ac, sc, pat⟩ := ⟨_, rfl⟩;rw [← hk];have c1 := ş id 1 1099511627776;have c2 := ş pr 0 1000;have c3 := ş ac 0 255;have c4 := ş sc 1 65535
 have hok : Ru.ok ⟨id, pr, ac, sc, pat⟩ = (decide (1 ≤ id ∧ id ≤ 1099511627776) && decide (0 ≤ pr ∧ pr ≤ 1000) && decide (0 ≤ ac ∧ ac ≤ 255) && decide (1 ≤ sc ∧ sc ≤ 65535) && decide (pat.size ≤ 256)) := by
  simp only [Ru.ok, ← Bool.decide_and]
  congr 1
  simp only [eq_iff_iff];omega
 rw [hok] at hk;clear hok;generalize decide (1 ≤ id ∧ id ≤ 1099511627776) = b1 at c1 hk;generalize decide (0 ≤ pr ∧ pr ≤ 1000) = b2 at c2 hk;generalize decide (0 ≤ ac ∧ ac ≤ 255) = b3 at c3 hk;generalize decide (1 ≤ sc ∧ sc ≤ 65535) = b4 at c4 hk;have C1 := ħ c1;have C2 := ħ c2;have C3 := ħ c3;have C4 := ħ c4;clear c1 c2 c3 c4
 have fin : ∀ {b : Bool} {w1 : World}, b = k → w1 = w.alloc (.cells #[.int .i64 id, .int .i64 pr, .int .i64 ac, .int .i64 sc, .string pat] 71) → Ending.returned (.bool b) = Ending.returned (.bool k) ∧ Below w.heap.size w w1 := fun e e' => ⟨by rw [e], by rw [e']; exact HB.o⟩
 cases b1 with
 | false =>
  go_enter Tryz.func51, Tryz.ntmps51
  go_wp2_with fail
  refine (C1.o _).mono ?_;rintro e w1 ⟨rfl, rfl⟩;go_wp2;go_ret
  exact fin (by rw [hk]; rfl) rfl
 | true =>
 cases b2 with
 | false =>
  go_enter Tryz.func51, Tryz.ntmps51
  go_wp2_with fail
  refine (C1.o _).mono ?_;rintro e w1 ⟨rfl, rfl⟩
  go_wp2_with fail
  refine (C2.o _).mono ?_;rintro e w1 ⟨rfl, rfl⟩;go_wp2;go_ret
  exact fin (by rw [hk]; rfl) rfl
 | true =>
 cases b3 with
 | false =>
  go_enter Tryz.func51, Tryz.ntmps51
  go_wp2_with fail
  refine (C1.o _).mono ?_;rintro e w1 ⟨rfl, rfl⟩
  go_wp2_with fail
  refine (C2.o _).mono ?_;rintro e w1 ⟨rfl, rfl⟩
  go_wp2_with fail
  refine (C3.o _).mono ?_;rintro e w1 ⟨rfl, rfl⟩;go_wp2;go_ret
  exact fin (by rw [hk]; rfl) rfl
 | true =>
 cases b4 with
 | false =>
  go_enter Tryz.func51, Tryz.ntmps51
  go_wp2_with fail
  refine (C1.o _).mono ?_;rintro e w1 ⟨rfl, rfl⟩
  go_wp2_with fail
  refine (C2.o _).mono ?_;rintro e w1 ⟨rfl, rfl⟩
  go_wp2_with fail
  refine (C3.o _).mono ?_;rintro e w1 ⟨rfl, rfl⟩
  go_wp2_with fail
  refine (C4.o _).mono ?_;rintro e w1 ⟨rfl, rfl⟩;go_wp2;go_ret
  exact fin (by rw [hk]; rfl) rfl
 | true =>
  by_cases h5 : pat.size ≤ 256
  ·have h5i : (pat.size : Int) ≤ 256 := by omega
   rw [decide_eq_true h5] at hk;go_enter Tryz.func51, Tryz.ntmps51
   go_wp2_with fail
   refine (C1.o _).mono ?_;rintro e w1 ⟨rfl, rfl⟩
   go_wp2_with fail
   refine (C2.o _).mono ?_;rintro e w1 ⟨rfl, rfl⟩
   go_wp2_with fail
   refine (C3.o _).mono ?_;rintro e w1 ⟨rfl, rfl⟩
   go_wp2_with fail
   refine (C4.o _).mono ?_;rintro e w1 ⟨rfl, rfl⟩;go_wp2;go_ret
   exact fin (by rw [hk]; rfl) rfl
  ·have h5i : ¬ (pat.size : Int) ≤ 256 := by omega
   rw [decide_eq_false h5] at hk;go_enter Tryz.func51, Tryz.ntmps51
   go_wp2_with fail
   refine (C1.o _).mono ?_;rintro e w1 ⟨rfl, rfl⟩
   go_wp2_with fail
   refine (C2.o _).mono ?_;rintro e w1 ⟨rfl, rfl⟩
   go_wp2_with fail
   refine (C3.o _).mono ?_;rintro e w1 ⟨rfl, rfl⟩
   go_wp2_with fail
   refine (C4.o _).mono ?_;rintro e w1 ⟨rfl, rfl⟩;go_wp2;go_ret
   exact fin (by rw [hk, decide_eq_false (by omega)]; rfl) rfl
end
section
open Go.RowKit
variable {w w' : World}
theorem ÅD {l : List Ru} {k : Nat} {r : Ru} (h : l[k]? = some r) : (l.take (k + 1)).all Ru.ok = ((l.take k).all Ru.ok && r.ok) := by
 obtain ⟨hk, rfl⟩ := List.getElem?_eq_some_iff.1 h;rw [ĕ hk, List.all_append];simp
theorem ËE {l : List Ru} {k : Nat} {r : Ru} (h : l[k]? = some r) (hr : r.ok = false) : l.all Ru.ok = false := by
 rw [List.all_eq_false]
 exact ⟨r, Č h, by simp [hr]⟩
set_option maxRecDepth 100000 in
set_option maxHeartbeats 2000000 in
theorem Æk (v : Value) (l : List Ru) (w : World) (hmax : l.length ≤ 1000000) (hS : Á w.heap.size w v l) :
 Calls Tryz.prog 50 #[v, .func (.func 51) #[] #[]] w fun e w' => e = .returned (.bool (l.all Ru.ok)) ∧ Below w.heap.size w w' := by
 obtain ⟨A, cap, rfl⟩ := hS.form;go_enter Tryz.func50, Tryz.ntmps50;go_wp2
 go_loopw [9] (fun i wr => ∃ k : Nat, k ≤ l.length ∧ i = .int .i64 k ∧ Hid ((l.take k).all Ru.ok = true) ∧ Below w.heap.size w wr) (fun i _ => l.length - (intOf i).toNat)
 case atStart => exact ⟨0, Ą _, rfl, rfl, ā _ _⟩
 case round =>
  obtain ⟨k, hk, rfl, HH, hbel⟩ := hrel;have hsz := hbel.size
  by_cases hlt : k < l.length
  ·obtain ⟨b, off, rfl, hb, c0, c1, c2, c3, c4⟩ := (hS.below hbel).at_ hlt
   have HG := ħ (Ā hlt);generalize l[k] = r at HG c0 c1 c2 c3 c4;cases hok : r.ok
   ·have HI := ħ hok
    clear hok
    go_wp2_with fail
    refine (Âz r _).mono ?_;rintro e w1 ⟨rfl, hb1⟩;rw [HI.o];go_wp2;go_ret;exact ⟨ë (ËE HG.o HI.o).symm, Ů hbel hsz hb1⟩
   ·have HI := ħ hok
    clear hok
    go_wp2_with fail
    refine (Âz r _).mono ?_;rintro e w1 ⟨rfl, hb1⟩;rw [HI.o];have HB := ħ (Ů hbel hsz hb1);clear hb1;go_wp2;go_roundw
    case rel => exact ⟨k + 1, by omega, by go_num, ħ (by rw [ÅD HG.o, HH.o, HI.o]; rfl), HB.o⟩
    case measure => simp [intOf]; omega
  ·obtain rfl : k = l.length := by omega
   go_wp2;go_ret
   exact ⟨ë (by have := HH.o; rw [Ă] at this; exact this.symm), hbel⟩
def Âf : Int → List Ru → Bool
 | _, [] => true
 | last, r :: l => decide (last < r.id) && Âf r.id l
theorem Æl : ∀ {l : List Ru} {last : Int}, Âf last l = true ↔ ť l ∧ ∀ r ∈ l, last < r.id
 | [], _ => by simp [Âf]
 | r :: l, last => by
  simp only [Âf, Bool.and_eq_true, decide_eq_true_eq, Æl (l := l), ė, forall_eq_or_imp];constructor
  ·rintro ⟨h, h1, h2⟩
   exact ⟨List.pairwise_cons.2 ⟨h2, h1⟩, h, fun x hx => by have := h2 x hx; omega⟩
  ·rintro ⟨h1, h, _⟩
   exact ⟨h, (List.pairwise_cons.1 h1).2, (List.pairwise_cons.1 h1).1⟩
set_option maxRecDepth 100000 in
set_option maxHeartbeats 2000000 in
theorem Íe (v : Value) (l : List Ru) (w : World) (hmax : l.length ≤ 1000000) (hS : Á w.heap.size w v l) :
 Calls Tryz.prog 52 #[v] w fun e w' => e = .returned (.bool (Âf 0 l)) ∧ Below w.heap.size w w' := by
 obtain ⟨A, cap, rfl⟩ := hS.form;go_enter Tryz.func52, Tryz.ntmps52;go_wp2
 go_loopw [3, 8] (fun lv i wr => ∃ (k : Nat) (last : Int), k ≤ l.length ∧ i = .int .i64 k ∧ lv = .int .i64 last ∧ Hid (Âf last (l.drop k) = Âf 0 l) ∧ Below w.heap.size w wr) (fun _ i _ => l.length - (intOf i).toNat)
 case atStart => exact ⟨0, 0, Ą _, rfl, rfl, rfl, ā _ _⟩
 case round =>
  obtain ⟨k, last, hk, rfl, rfl, HH, hbel⟩ := hrel;have hsz := hbel.size
  by_cases hlt : k < l.length
  ·obtain ⟨b, off, rfl, hb, c0, c1, c2, c3, c4⟩ := (hS.below hbel).at_ hlt
   have HG := ħ (List.drop_eq_getElem_cons hlt);generalize l[k] = r at HG c0 c1 c2 c3 c4
   by_cases hle : r.id ≤ last
   ·go_wp2
    go_ret;refine ⟨ë ?_, hbel.alloc hsz _⟩;rw [← HH.o, HG.o]
    have : ¬ last < r.id := by omega
    simp [Âf, this]
   ·go_wp2
    go_roundw
    case rel => exact ⟨k + 1, r.id, by omega, by go_num, rfl, ħ (by
     rw [← HH.o, HG.o]
     have : last < r.id := by omega
     simp [Âf, this]), hbel.alloc hsz _⟩
    case measure => simp [intOf]; omega
  ·obtain rfl : k = l.length := by omega
   go_wp2;go_ret
   exact ⟨ë (by have := HH.o; rw [List.drop_length] at this; exact this), hbel⟩
end
section
open Go.RowKit
variable {w w' : World}
theorem Ïv (de cl fu st : Int) (rs : List Ru) : decide (RS.Ok ⟨de, cl, fu, st, rs⟩) = (decide (0 ≤ de ∧ de ≤ 255) && decide (0 ≤ cl ∧ cl ≤ 255) && decide (1 ≤ fu ∧ fu ≤ 1048576) && decide (0 ≤ st ∧ st ≤ 4096) && decide (rs.length ≤ 16) && rs.all Ru.ok && Âf 0 rs) := by
 rw [Bool.eq_iff_iff];simp only [Bool.and_eq_true, decide_eq_true_eq, RS.Ok, RS.num, List.all_eq_true, Æl];constructor
 ·rintro ⟨h1, h2, h3, h4⟩
  exact ⟨⟨⟨⟨⟨⟨by omega, by omega⟩, by omega⟩, by omega⟩, h2⟩, h3⟩, h4, fun r hr => by have := h3 r hr; simp only [Ru.ok, decide_eq_true_eq] at this; omega⟩
 ·rintro ⟨⟨⟨⟨⟨⟨h1, h2⟩, h3⟩, h4⟩, h5⟩, h6⟩, h7, _⟩
  exact ⟨by omega, h5, h6, h7⟩
set_option maxRecDepth 100000 in
set_option maxHeartbeats 4000000 in
theorem ÁD (s : RS) (v : Value) (w : World) (hmax : s.rs.length ≤ 1000000) (hS : Á w.heap.size w v s.rs) :
 Calls Tryz.prog 26 #[.agg #[.int .i64 s.de, .int .i64 s.cl, .int .i64 s.fu, .int .i64 s.st, v]] w fun e w' => e = .returned (.bool (decide s.Ok)) ∧ Below w.heap.size w w' := by
 obtain ⟨de, cl, fu, st, rs⟩ := s;simp only at hmax hS ⊢;obtain ⟨A, cap, rfl⟩ := hS.form;have hb := (ā w.heap.size w).alloc (ŋ _) (.cells #[.int .i64 de, .int .i64 cl, .int .i64 fu, .int .i64 st, .slice A rs.length cap] 59);have hx := Blk.new w 59 #[.int .i64 de, .int .i64 cl, .int .i64 fu, .int .i64 st, .slice A rs.length cap];have HB := ħ hb;have HX := ħ hx;have hS1 := hS.on ((ā w.heap.size w).alloc (ŋ _) (.cells #[.int .i64 de, .int .i64 cl, .int .i64 fu, .int .i64 st, .slice A rs.length cap] 59));have HS := ħ hS1;clear hb hx hS hS1;obtain ⟨k, hk⟩ : ∃ k, k = decide (RS.Ok ⟨de, cl, fu, st, rs⟩) := ⟨_, rfl⟩;rw [← hk];have c1 := ş de 0 255;have c2 := ş cl 0 255;have c3 := ş fu 1 1048576;have c4 := ş st 0 4096
 have c6 := fun (w : World) => Æk (.slice A rs.length cap) rs w hmax
 have c7 := fun (w : World) => Íe (.slice A rs.length cap) rs w hmax
 rw [Ïv] at hk;generalize decide (0 ≤ de ∧ de ≤ 255) = b1 at c1 hk;generalize decide (0 ≤ cl ∧ cl ≤ 255) = b2 at c2 hk;generalize decide (1 ≤ fu ∧ fu ≤ 1048576) = b3 at c3 hk;generalize decide (0 ≤ st ∧ st ≤ 4096) = b4 at c4 hk;generalize rs.all Ru.ok = b6 at c6 hk;generalize Âf 0 rs = b7 at c7 hk;have C1 := ħ c1;have C2 := ħ c2;have C3 := ħ c3;have C4 := ħ c4;have C6 := ħ c6;have C7 := ħ c7;clear c1 c2 c3 c4 c6 c7
 have fin : ∀ {b : Bool} {w1 : World}, b = k → Below w.heap.size w w1 → Ending.returned (.bool b) = Ending.returned (.bool k) ∧ Below w.heap.size w w1 := fun e e' => ⟨by rw [e], e'⟩
 cases b1 with
 | false =>
  go_enter Tryz.func26, Tryz.ntmps26
  go_wp2_with fail
  refine (C1.o _).mono ?_;rintro e w1 ⟨rfl, rfl⟩;go_wp2;go_ret
  exact fin (by rw [hk]; rfl) HB.o
 | true =>
 cases b2 with
 | false =>
  go_enter Tryz.func26, Tryz.ntmps26
  go_wp2_with fail
  refine (C1.o _).mono ?_;rintro e w1 ⟨rfl, rfl⟩
  go_wp2_with fail
  refine (C2.o _).mono ?_;rintro e w1 ⟨rfl, rfl⟩;go_wp2;go_ret
  exact fin (by rw [hk]; rfl) HB.o
 | true =>
 cases b3 with
 | false =>
  go_enter Tryz.func26, Tryz.ntmps26
  go_wp2_with fail
  refine (C1.o _).mono ?_;rintro e w1 ⟨rfl, rfl⟩
  go_wp2_with fail
  refine (C2.o _).mono ?_;rintro e w1 ⟨rfl, rfl⟩
  go_wp2_with fail
  refine (C3.o _).mono ?_;rintro e w1 ⟨rfl, rfl⟩;go_wp2;go_ret
  exact fin (by rw [hk]; rfl) HB.o
 | true =>
 cases b4 with
 | false =>
  go_enter Tryz.func26, Tryz.ntmps26
  go_wp2_with fail
  refine (C1.o _).mono ?_;rintro e w1 ⟨rfl, rfl⟩
  go_wp2_with fail
  refine (C2.o _).mono ?_;rintro e w1 ⟨rfl, rfl⟩
  go_wp2_with fail
  refine (C3.o _).mono ?_;rintro e w1 ⟨rfl, rfl⟩
  go_wp2_with fail
  refine (C4.o _).mono ?_;rintro e w1 ⟨rfl, rfl⟩;go_wp2;go_ret
  exact fin (by rw [hk]; rfl) HB.o
 | true =>
 by_cases h5 : rs.length ≤ 16
 ·have h5i : (rs.length : Int) ≤ 16 := by omega
  rw [decide_eq_true h5] at hk
  cases b6 with
  | false =>
   go_enter Tryz.func26, Tryz.ntmps26
   go_wp2_with fail
   refine (C1.o _).mono ?_;rintro e w1 ⟨rfl, rfl⟩
   go_wp2_with fail
   refine (C2.o _).mono ?_;rintro e w1 ⟨rfl, rfl⟩
   go_wp2_with fail
   refine (C3.o _).mono ?_;rintro e w1 ⟨rfl, rfl⟩
   go_wp2_with fail
   refine (C4.o _).mono ?_;rintro e w1 ⟨rfl, rfl⟩
   go_wp2_with fail
   refine (C6.o _ HS.o).mono ?_;rintro e w1 ⟨rfl, hb1⟩;have hv : w1.cell? ⟨w.heap.size, 4, none⟩ = some (.slice A rs.length cap) := (HX.o.on hb1).cell 4;have HB1 := ħ (HB.o.trans (hb1.mono HB.o.size));have HS1 := ħ (HS.o.on hb1);clear hb1;go_wp2;go_ret
   exact fin (by rw [hk]; rfl) HB1.o
  | true =>
  go_enter Tryz.func26, Tryz.ntmps26
  go_wp2_with fail
  refine (C1.o _).mono ?_;rintro e w1 ⟨rfl, rfl⟩
  go_wp2_with fail
  refine (C2.o _).mono ?_;rintro e w1 ⟨rfl, rfl⟩
  go_wp2_with fail
  refine (C3.o _).mono ?_;rintro e w1 ⟨rfl, rfl⟩
  go_wp2_with fail
  refine (C4.o _).mono ?_;rintro e w1 ⟨rfl, rfl⟩
  go_wp2_with fail
  refine (C6.o _ HS.o).mono ?_;rintro e w1 ⟨rfl, hb1⟩;have hv : w1.cell? ⟨w.heap.size, 4, none⟩ = some (.slice A rs.length cap) := (HX.o.on hb1).cell 4;have HB1 := ħ (HB.o.trans (hb1.mono HB.o.size));have HS1 := ħ (HS.o.on hb1);clear hb1
  go_wp2_with fail
  refine (C7.o _ HS1.o).mono ?_;rintro e w2 ⟨rfl, hb2⟩;have HB2 := ħ (HB1.o.trans (hb2.mono HB1.o.size));clear hb2;go_wp2;go_ret
  exact fin (by rw [hk]; simp) HB2.o
 ·have h5i : ¬ (rs.length : Int) ≤ 16 := by omega
  rw [decide_eq_false h5] at hk;go_enter Tryz.func26, Tryz.ntmps26
  go_wp2_with fail
  refine (C1.o _).mono ?_;rintro e w1 ⟨rfl, rfl⟩
  go_wp2_with fail
  refine (C2.o _).mono ?_;rintro e w1 ⟨rfl, rfl⟩
  go_wp2_with fail
  refine (C3.o _).mono ?_;rintro e w1 ⟨rfl, rfl⟩
  go_wp2_with fail
  refine (C4.o _).mono ?_;rintro e w1 ⟨rfl, rfl⟩;go_wp2;go_ret;exact ⟨rfl, HB.o⟩
set_option maxRecDepth 100000 in
theorem Æm (w : World) : Calls Tryz.prog 45 #[] w fun e w' => e = .returned (.agg #[.int .i64 0, .int .i64 255, .int .i64 10000, .int .i64 500, .slice none 0 0]) ∧ Below w.heap.size w w' := by
 go_enter Tryz.func45, Tryz.ntmps45;go_wp2
 exact bodyPost_ret (v := .agg #[.int .i64 0, .int .i64 255, .int .i64 10000, .int .i64 500, .slice none 0 0]) (by simp [results, Tryz.results45, go_sem]) rfl ⟨rfl, by first | exact (ā _ _).alloc (ŋ _) _ | skip⟩
end
section
open Go.RowKit
variable {w w' : World}
theorem Àk (old asked : Int) (w : World) : Calls Tryz.prog 98 #[.int .i64 old, .int .i64 asked] w fun e w' => e = .returned (.int .i64 (orK asked old)) ∧ w' = w := by
 go_enter Tryz.func98, Tryz.ntmps98;unfold orK
 by_cases h : asked = -1
 ·subst h
  go_wp2;go_ret;exact ⟨rfl, rfl⟩
 ·rw [if_neg h]
  go_wp2;go_ret;exact ⟨rfl, rfl⟩
set_option maxRecDepth 100000 in
set_option maxHeartbeats 4000000 in
theorem Çe (s : RS) (d : Dl) (v pv dv : Value) (hv : ∃ A n c, v = .slice A n c) (hp : ∃ A n c, pv = .slice A n c) (hd : ∃ A n c, dv = .slice A n c) (w : World) :
 Calls Tryz.prog 78 #[.agg #[.int .i64 s.de, .int .i64 s.cl, .int .i64 s.fu, .int .i64 s.st, v], .agg #[.int .i64 d.de, .int .i64 d.cl, .int .i64 d.fu, .int .i64 d.st, pv, dv]] w
  fun e w' => e = .returned (.agg #[.int .i64 (orK d.de s.de), .int .i64 (orK d.cl s.cl), .int .i64 (orK d.fu s.fu), .int .i64 (orK d.st s.st), .slice none 0 0]) ∧ Below w.heap.size w w' := by
 obtain ⟨A, n, c, rfl⟩ := hv;obtain ⟨A', n', c', rfl⟩ := hp;obtain ⟨A'', n'', c'', rfl⟩ := hd;obtain ⟨sde, scl, sfu, sst, rs⟩ := s;obtain ⟨de, cl, fu, st, pu, dr⟩ := d;simp only;have c1 := Àk sde de;have c2 := Àk scl cl;have c3 := Àk sfu fu;have c4 := Àk sst st;generalize orK de sde = n1 at c1;generalize orK cl scl = n2 at c2;generalize orK fu sfu = n3 at c3;generalize orK st sst = n4 at c4;have C1 := ħ c1;have C2 := ħ c2;have C3 := ħ c3;have C4 := ħ c4;clear c1 c2 c3 c4;go_enter Tryz.func78, Tryz.ntmps78
 go_wp2_with fail
 refine wp_region_still_tail 21 (by kernel_rfl) (by kernel_rfl) ?_
 simp only [List.take_succ_cons, List.take_zero, List.drop_succ_cons, List.drop_zero]
 change wpStill _ _ (((w.drew.alloc (.cells #[.int .i64 sde, .int .i64 scl, .int .i64 sfu, .int .i64 sst, .slice A n c] 59)).alloc (.cells #[.int .i64 de, .int .i64 cl, .int .i64 fu, .int .i64 st, .slice A' n' c', .slice A'' n'' c''] 63)).alloc (.cells #[.int .i64 0, .int .i64 0, .int .i64 0, .int .i64 0, .slice none 0 0] 59)) (fun a' => wpList _ _ _ _ a' (((w.drew.alloc (.cells #[.int .i64 sde, .int .i64 scl, .int .i64 sfu, .int .i64 sst, .slice A n c] 59)).alloc (.cells #[.int .i64 de, .int .i64 cl, .int .i64 fu, .int .i64 st, .slice A' n' c', .slice A'' n'' c''] 63)).alloc (.cells #[.int .i64 0, .int .i64 0, .int .i64 0, .int .i64 0, .slice none 0 0] 59))) _ _
 have hs : w.heap.size = w.drew.heap.size := rfl;rw [hs];clear hs;have hB : Below w.heap.size w w.drew := (ā _ w).drew;have HB := ħ hB;clear hB;generalize w.drew = w0 at HB ⊢
 repeat still_step
 still_call (C1.o _)
 repeat still_step
 still_call (C2.o _)
 repeat still_step
 still_call (C3.o _)
 repeat still_step
 still_call (C4.o _)
 repeat still_step
 refine wpStill_nil ?_;go_wp2
 refine bodyPost_ret (v := .agg #[.int .i64 n1, .int .i64 n2, .int .i64 n3, .int .i64 n4, .slice none 0 0]) (by simp [results, Tryz.results78, go_sem]) rfl ⟨rfl, ?_⟩
 have h0 := HB.o.size
 exact ((HB.o.alloc h0 _).alloc (by simp; omega) _).alloc (by simp; omega) _
end
end Go.Proofs.YtpginkdkblmnbaaGreatDoor
