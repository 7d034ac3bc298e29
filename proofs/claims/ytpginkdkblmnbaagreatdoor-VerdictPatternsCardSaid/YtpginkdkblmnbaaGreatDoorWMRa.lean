import Derived.Test.YtpginkdkblmnbaaGreatDoorChecked
import Derived.WalkKit
import Derived.WalkSpells
import Derived.WalkLawsBesides
import Derived.Outline
import Derived.Below
import Derived.Laws.OwnMore
import Derived.Laws.Rows
import Derived.Deep.Draws
import Derived.Deep.AppendLies
import Derived.Deep.Onto
import Derived.Maps.AppendAt
import Derived.Lib.Hide
import Derived.OwnWalk
import Derived.Test.YtpginkdkblmnbaaGreatDoorWMPa
import Derived.Test.YtpginkdkblmnbaaGreatDoorWMRf
import Derived.Maps.OwnSet
import Derived.Maps.Views
import Derived.Sort.LotA
import Derived.StillTailTactics
namespace Go.Proofs.YtpginkdkblmnbaaGreatDoor
section
open Go.RowKit
theorem ū {B : Nat} {a w w1 : World} {o : Obj} (h : Below B a w) (hB : B ≤ w.heap.size) (h1 : Below (w.alloc o).heap.size (w.alloc o) w1) : Below B a w1 :=
 (h.alloc hB o).trans (h1.mono (by simp; omega))
theorem Á {P : Program} {e : TypeId} {z : Value} {s b : Nat} (h : (P.info? e).map (fun i => (i.zero, i.size, i.bytes)) = some (some z, s, b)) : ∃ i, P.info? e = some i ∧ i.zero = some z ∧ i.size = s ∧ i.bytes = b := by
 obtain ⟨i, hi, h⟩ := Option.map_eq_some_iff.1 h;simp only [Prod.mk.injEq] at h;exact ⟨i, hi, h.1, h.2.1, h.2.2⟩
theorem Åm {k : IntKind} {a b : Int} (h : a = b) : Ending.returned (.int k a) = .returned (.int k b) := by rw [h]
section
variable {w w' : World} {g : Nat} {t : TypeId} {cs : Array Value}
theorem ÀG {base n : Nat} {e : TypeId} {size : Nat} {v : Value} {xs : List Value} (h : w.ownsRow base e size v n xs) (hk : ∀ i, i < w.heap.size → base ≤ i → (∃ cs z, w.heap[i]? = some (.cells cs e z)) → w'.heap[i]? = w.heap[i]?) : w'.ownsRow base e size v n xs :=
 Þ h fun i hi => by
  rcases h.2 with ⟨rfl, _⟩ | ⟨g, cap, cur, rfl, hb, hh, _⟩
  ·simp [Value.ownBlock] at hi
  ·obtain rfl : i = g := by simpa [Value.ownBlock] using hi
   exact hk i (ä hh) hb ⟨cur, _, hh⟩
end
def zI (l : List Int) : List Value := l.map (Value.int .i64)
theorem ÐR {l : List Int} {i : Nat} {u : Int} (h : l[i]? = some u) : (zI l)[i]? = some (.int .i64 u) := by simp [zI, h]
section
variable {P : Program} (w : World)
end
end
section
structure Ru where
 id : Int
 pr : Int
 ac : Int
 sc : Int
 pat : ByteArray
def Ru.cells (r : Ru) : List Value := [.int .i64 r.id, .int .i64 r.pr, .int .i64 r.ac, .int .i64 r.sc, .string r.pat]
def Ru.val (r : Ru) : Value := .agg #[.int .i64 r.id, .int .i64 r.pr, .int .i64 r.ac, .int .i64 r.sc, .string r.pat]
def Ru.none : Ru := ⟨0, 0, 0, 0, .empty⟩
theorem Ru.inj {r s : Ru} (h : r.val = s.val) : r = s := by
 cases r; cases s; simp [Ru.val] at h; simpa using h
def Ru.ok (r : Ru) : Bool := decide (1 ≤ r.id ∧ r.id ≤ 1099511627776 ∧ 0 ≤ r.pr ∧ r.pr ≤ 1000 ∧ 0 ≤ r.ac ∧ r.ac ≤ 255 ∧ 1 ≤ r.sc ∧ r.sc ≤ 65535 ∧ r.pat.size ≤ 256)
structure RS where
 de : Int
 cl : Int
 fu : Int
 st : Int
 rs : List Ru
def RS.zero : RS := ⟨0, 0, 0, 0, []⟩
def RS.first : RS := ⟨0, 255, 10000, 500, []⟩
def RS.num (s : RS) : Bool := decide (0 ≤ s.de ∧ s.de ≤ 255 ∧ 0 ≤ s.cl ∧ s.cl ≤ 255 ∧ 1 ≤ s.fu ∧ s.fu ≤ 1048576 ∧ 0 ≤ s.st ∧ s.st ≤ 4096)
abbrev ÃY (l : List Ru) : Prop := l.Pairwise fun a b => a.id < b.id
def RS.Ok (s : RS) : Prop := s.num = true ∧ s.rs.length ≤ 16 ∧ (∀ r ∈ s.rs, r.ok = true) ∧ ÃY s.rs
instance (s : RS) : Decidable s.Ok := by unfold RS.Ok; infer_instance
structure Dl where
 de : Int
 cl : Int
 fu : Int
 st : Int
 put : List Ru
 drop : List Int
def orK (n keep : Int) : Int := if n = -1 then keep else n
def Ñp (s : RS) (d : Dl) : RS := ⟨orK d.de s.de, orK d.cl s.cl, orK d.fu s.fu, orK d.st s.st, []⟩
def ins (r : Ru) (l : List Ru) : List Ru := l.filter (fun x => decide (x.id < r.id)) ++ r :: l.filter (fun x => decide (r.id < x.id))
def drops (l : List Ru) (ids : List Int) : List Ru := l.filter fun x => decide (x.id ∉ ids)
def puts (l : List Ru) (p : List Ru) : List Ru := p.foldl (fun l r => ins r l) l
def Dl.ids (d : Dl) : List Int := d.put.map Ru.id ++ d.drop
def ÉJ (s : RS) (d : Dl) : List Ru := puts (drops s.rs d.drop) d.put
theorem ÏO {r x : Ru} {l : List Ru} : x ∈ ins r l ↔ x = r ∨ (x ∈ l ∧ x.id ≠ r.id) := by
 unfold ins;simp only [Ė, ė, List.mem_filter, decide_eq_true_eq];constructor
 ·rintro (⟨h, hl⟩ | rfl | ⟨h, hl⟩)
  ·exact .inr ⟨h, by omega⟩
  ·exact .inl rfl
  ·exact .inr ⟨h, by omega⟩
 ·rintro (rfl | ⟨h, hl⟩)
  ·exact .inr (.inl rfl)
  ·rcases Int.lt_or_gt_of_ne hl with h' | h'
   ·exact .inl ⟨h, h'⟩
   ·exact .inr (.inr ⟨h, h'⟩)
theorem ÃY.ins {r : Ru} {l : List Ru} (h : ÃY l) : ÃY (ins r l) := by
 unfold Go.Proofs.YtpginkdkblmnbaaGreatDoor.ins
 refine List.pairwise_append.2 ⟨h.filter _, List.pairwise_cons.2 ⟨fun x hx => ?_, h.filter _⟩, fun x hx y hy => ?_⟩
 ·exact of_decide_eq_true (List.mem_filter.1 hx).2
 ·have h1 : x.id < r.id := of_decide_eq_true (List.mem_filter.1 hx).2
  rcases List.mem_cons.1 hy with rfl | hy
  ·exact h1
  ·have h2 : r.id < y.id := of_decide_eq_true (List.mem_filter.1 hy).2
   omega
theorem ÃY.puts {l : List Ru} (h : ÃY l) : ∀ (p : List Ru), ÃY (puts l p) := by
 intro p
 induction p generalizing l with
 | nil => exact h
 | cons r p ih => exact ih h.ins
theorem ÃY.drops {l : List Ru} (h : ÃY l) (ids : List Int) : ÃY (drops l ids) := h.filter _
theorem ÎI {l : List Ru} (h : ÃY l) {x y : Ru} (hx : x ∈ l) (hy : y ∈ l) (e : x.id = y.id) : x = y := by
 induction l with
 | nil => simp at hx
 | cons z l ih =>
  obtain ⟨a1, a2⟩ := List.pairwise_cons.1 h
  rcases List.mem_cons.1 hx with ex | hx'
  ·rcases List.mem_cons.1 hy with ey | hy'
   ·rw [ex, ey]
   ·have := a1 y hy'; rw [ex] at e; omega
  ·rcases List.mem_cons.1 hy with ey | hy'
   ·have := a1 x hx'; rw [ey] at e; omega
   ·exact ih a2 hx' hy'
end
section
end
section
variable {l : List Ru} {hs : Ru → Bool}
end
section
open Go.RowKit
variable {w w' : World}
def Ås (l : List Ru) : List Value := l.flatMap Ru.cells
theorem ÄW : ∀ (l : List Ru) (i k : Nat) (r : Ru), l[i]? = some r → k < 5 → (Ås l)[i * 5 + k]? = r.cells[k]?
 | [], i, k, r, h, _ => by simp at h
 | x :: l, 0, k, r, h, hk => by
  simp at h;subst h;rw [Nat.zero_mul, ĉ]
  show (x.cells ++ Ås l)[k]? = _
  exact List.getElem?_append_left (by simp [Ru.cells]; omega)
 | x :: l, i + 1, k, r, h, hk => by
  have := ÄW l i k r (by simpa using h) hk
  show (x.cells ++ Ås l)[(i + 1) * 5 + k]? = _
  rw [List.getElem?_append_right (by simp [Ru.cells]; omega), ← this]
  congr 1
  simp [Ru.cells];omega
def Ëj (w : World) (b o : Nat) (r : Ru) : Prop :=
 w.cell? ⟨b, o, none⟩ = some (.int .i64 r.id) ∧ w.cell? ⟨b, o + 1, none⟩ = some (.int .i64 r.pr) ∧ w.cell? ⟨b, o + 2, none⟩ = some (.int .i64 r.ac) ∧ w.cell? ⟨b, o + 3, none⟩ = some (.int .i64 r.sc) ∧ w.cell? ⟨b, o + 4, none⟩ = some (.string r.pat)
theorem Ëj.below {n₀ b o : Nat} {r : Ru} (h : Ëj w b o r) (hb : b < n₀) (hB : Below n₀ w w') : Ëj w' b o r :=
 ⟨(hB.cell (p := ⟨b, o, none⟩) hb).trans h.1, (hB.cell (p := ⟨b, o + 1, none⟩) hb).trans h.2.1, (hB.cell (p := ⟨b, o + 2, none⟩) hb).trans h.2.2.1, (hB.cell (p := ⟨b, o + 3, none⟩) hb).trans h.2.2.2.1, (hB.cell (p := ⟨b, o + 4, none⟩) hb).trans h.2.2.2.2⟩
theorem Ëj.get {b o : Nat} {r : Ru} (h : Ëj w b o r) (k : Nat) (u : Value) (hu : r.cells[k]? = some u) : w.cell? ⟨b, o + k, none⟩ = some u := by
 obtain ⟨h0, h1, h2, h3, h4⟩ := h
 match k, hu with
 | 0, hu => simp [Ru.cells] at hu; subst hu; exact h0
 | 1, hu => simp [Ru.cells] at hu; subst hu; exact h1
 | 2, hu => simp [Ru.cells] at hu; subst hu; exact h2
 | 3, hu => simp [Ru.cells] at hu; subst hu; exact h3
 | 4, hu => simp [Ru.cells] at hu; subst hu; exact h4
 | k + 5, hu => simp [Ru.cells] at hu
def Ĭ (n₀ : Nat) (w : World) (v : Value) (l : List Ru) : Prop :=
 ∃ A cap, v = .slice A l.length cap ∧ l.length ≤ cap ∧ (l ≠ [] → ∃ b off, A = some ⟨b, off, none⟩ ∧ b < n₀ ∧ ∀ i r, l[i]? = some r → Ëj w b (off + i * 5) r)
theorem Ĭ.below {n₀ : Nat} {v : Value} {l : List Ru} (h : Ĭ n₀ w v l) (hB : Below n₀ w w') : Ĭ n₀ w' v l := by
 obtain ⟨A, cap, hv, hc, h⟩ := h
 exact ⟨A, cap, hv, hc, fun hs => by
  obtain ⟨b, off, hA, hb, ht⟩ := h hs
  exact ⟨b, off, hA, hb, fun i r hr => (ht i r hr).below hb hB⟩⟩
theorem Ĭ.more {n₀ n₁ : Nat} {v : Value} {l : List Ru} (h : Ĭ n₀ w v l) (hn : n₀ ≤ n₁) : Ĭ n₁ w v l := by
 obtain ⟨A, cap, hv, hc, h⟩ := h
 exact ⟨A, cap, hv, hc, fun hs => by
  obtain ⟨b, off, hA, hb, ht⟩ := h hs
  exact ⟨b, off, hA, by omega, ht⟩⟩
theorem Ĭ.on {v : Value} {l : List Ru} (h : Ĭ w.heap.size w v l) (hB : Below w.heap.size w w') : Ĭ w'.heap.size w' v l := (h.below hB).more hB.size
theorem Ĭ.nil (n₀ : Nat) (w : World) : Ĭ n₀ w (.slice none 0 0) [] := ⟨none, 0, rfl, ŋ _, fun h => absurd rfl h⟩
theorem Ĭ.at_ {n₀ n cap k : Nat} {A : Option Addr} {l : List Ru} (h : Ĭ n₀ w (.slice A n cap) l) (hk : k < l.length) :
 ∃ b off, A = some ⟨b, off, none⟩ ∧ b < n₀ ∧ Ëj w b (off + k * 5) l[k] := by
 obtain ⟨A', cap', hv, _, h⟩ := h
 have : A = A' := by injection hv
 subst this
 obtain ⟨b, off, hA, hb, ht⟩ := h (by rintro rfl; simp at hk)
 exact ⟨b, off, hA, hb, ht k l[k] (Ā hk)⟩
theorem Ĭ.form {n₀ : Nat} {v : Value} {l : List Ru} (h : Ĭ n₀ w v l) : ∃ A cap, v = .slice A l.length cap := by
 obtain ⟨A, cap, hv, _⟩ := h;exact ⟨A, cap, hv⟩
def Ãa (w : World) (base : Nat) (e : TypeId) (v : Value) (l : List Ru) : Prop := w.ownsRow base e 5 v l.length (Ås l)
theorem Ãa.nil (w : World) (base : Nat) (e : TypeId) : Ãa w base e (.slice none 0 0) [] := World.ownsRow_nil _ _ _ _
theorem Ãa.set {base : Nat} {e : TypeId} {v : Value} {l : List Ru} (h : Ãa w base e v l) : Ĭ w.heap.size w v l := by
 have h0 := h;unfold Ãa at h
 rcases h.2 with ⟨hv, hn⟩ | ⟨g, cap, cur, hv, _, _, hnc, _⟩
 ·obtain rfl : l = [] := List.length_eq_zero_iff.1 hn
  subst hv;exact Ĭ.nil _ _
 ·subst hv
  refine ⟨_, cap, rfl, hnc, fun _ => ⟨g, 0, rfl, (h.lt g rfl).2, fun i r hr => ?_⟩⟩
  have hadd : ∀ j, (⟨g, 0, none⟩ : Addr).add j = ⟨g, 0 + j, none⟩ := fun j => by unfold Addr.add; split <;> simp_all
  have c : ∀ k u, k < 5 → r.cells[k]? = some u → w.cell? ⟨g, 0 + (i * 5 + k), none⟩ = some u := fun k u hk hu => by
   have := h.cells (g := g) rfl _ _ ((ÄW l i k r hr hk).trans hu)
   rwa [hadd] at this
  exact ⟨c 0 _ (by omega) rfl, c 1 _ (by omega) rfl, c 2 _ (by omega) rfl, c 3 _ (by omega) rfl, c 4 _ (by omega) rfl⟩
theorem Ãa.on {base : Nat} {e : TypeId} {v : Value} {l : List Ru} (h : Ãa w base e v l) (hB : Below w.heap.size w w') : Ãa w' base e v l :=
 Þ h fun i hi => hB.block i (World.ownsRow.lt h i hi.symm).2
theorem Ãa.alloc {base : Nat} {e : TypeId} {v : Value} {l : List Ru} (h : Ãa w base e v l) (o : Obj) : Ãa (w.alloc o) base e v l := World.ownsRow.alloc h o
section
variable {P : Program} (w : World)
end
end
section
open Go.RowKit
variable {w w' : World}
theorem Ő (n lo hi : Int) (w : World) : Calls Tryz.prog 49 #[.int .i64 n, .int .i64 lo, .int .i64 hi] w fun e w' => e = .returned (.bool (decide (lo ≤ n ∧ n ≤ hi))) ∧ w' = w := by
 go_enter Tryz.func49, Tryz.ntmps49
 by_cases h1 : lo ≤ n
 ·by_cases h2 : n ≤ hi
  ·rw [decide_eq_true ⟨h1, h2⟩]
   go_wp2;go_ret;exact ⟨rfl, rfl⟩
  ·rw [decide_eq_false (fun h => h2 h.2)]
   go_wp2;go_ret;exact ⟨rfl, rfl⟩
 ·rw [decide_eq_false (fun h => h1 h.1)]
  go_wp2;go_ret;exact ⟨rfl, rfl⟩
set_option maxRecDepth 100000 in
set_option maxHeartbeats 2000000 in
theorem Ãk (r : Ru) (w : World) : Calls Tryz.prog 51 #[.agg #[.int .i64 r.id, .int .i64 r.pr, .int .i64 r.ac, .int .i64 r.sc, .string r.pat]] w fun e w' => e = .returned (.bool r.ok) ∧ Below w.heap.size w w' := by
 obtain ⟨id, pr, ac, sc, pat⟩ := r;simp only;have hb := (ā w.heap.size w).alloc (ŋ _) (.cells #[.int .i64 id, .int .i64 pr, .int .i64 ac, .int .i64 sc, .string pat] 71);have HB := ħ hb;clear hb;obtain ⟨k, hk⟩ : ∃ k, k = Ru.ok ⟨id, pr, ac, sc, pat⟩ := ⟨_, rfl⟩;rw [← hk];have c1 := Ő id 1 1099511627776;have c2 := Ő pr 0 1000;have c3 := Ő ac 0 255;have c4 := Ő sc 1 65535
 have hok : Ru.ok ⟨id, pr, ac, sc, pat⟩ = (decide (1 ≤ id ∧ id ≤ 1099511627776) && decide (0 ≤ pr ∧ pr ≤ 1000) && decide (0 ≤ ac ∧ ac ≤ 255) && decide (1 ≤ sc ∧ sc ≤ 65535) && decide (pat.size ≤ 256)) := by
  simp only [Ru.ok, ← Bool.decide_and]
  congr 1
  simp only [eq_iff_iff];omega
 rw [hok] at hk;clear hok;generalize decide (1 ≤ id ∧ id ≤ 1099511627776) = b1 at c1 hk;generalize decide (0 ≤ pr ∧ pr ≤ 1000) = b2 at c2 hk;generalize decide (0 ≤ ac ∧ ac ≤ 255) = b3 at c3 hk;generalize decide (1 ≤ sc ∧ sc ≤ 65535) = b4 at c4 hk;have C1 := ħ c1;have C2 := ħ c2;have C3 := ħ c3;have C4 := ħ c4;clear c1 c2 c3 c4
 have fin : ∀ {b : Bool} {w1 : World}, b = k → w1 = w.alloc (.cells #[.int .i64 id, .int .i64 pr, .int .i64 ac, .int .i64 sc, .string pat] 71) → Ending.returned (.bool b) = Ending.returned (.bool k) ∧ Below w.heap.size w w1 := fun e e' => ⟨by rw [e], by rw [e']; exact HB.o⟩
 cases b1 with
 | false =>
  go_enter Tryz.func51, Tryz.ntmps51
  go_wp2_with fail
  refine (C1.o _).mono ?_;rintro e w1 ⟨rfl, rfl⟩;go_wp2;go_ret
  exact fin (by rw [hk]; rfl) rfl
 | true =>
 cases b2 with
 | false =>
  go_enter Tryz.func51, Tryz.ntmps51
  go_wp2_with fail
  refine (C1.o _).mono ?_;rintro e w1 ⟨rfl, rfl⟩
  go_wp2_with fail
  refine (C2.o _).mono ?_;rintro e w1 ⟨rfl, rfl⟩;go_wp2;go_ret
  exact fin (by rw [hk]; rfl) rfl
 | true =>
 cases b3 with
 | false =>
  go_enter Tryz.func51, Tryz.ntmps51
  go_wp2_with fail
  refine (C1.o _).mono ?_;rintro e w1 ⟨rfl, rfl⟩
  go_wp2_with fail
  refine (C2.o _).mono ?_;rintro e w1 ⟨rfl, rfl⟩
  go_wp2_with fail
  refine (C3.o _).mono ?_;rintro e w1 ⟨rfl, rfl⟩;go_wp2;go_ret
  exact fin (by rw [hk]; rfl) rfl
 | true =>
 cases b4 with
 | false =>
  go_enter Tryz.func51, Tryz.ntmps51
  go_wp2_with fail
  refine (C1.o _).mono ?_;rintro e w1 ⟨rfl, rfl⟩
  go_wp2_with fail
  refine (C2.o _).mono ?_;rintro e w1 ⟨rfl, rfl⟩
  go_wp2_with fail
  refine (C3.o _).mono ?_;rintro e w1 ⟨rfl, rfl⟩
  go_wp2_with fail
  refine (C4.o _).mono ?_;rintro e w1 ⟨rfl, rfl⟩;go_wp2;go_ret
  exact fin (by rw [hk]; rfl) rfl
 | true =>
  by_cases h5 : pat.size ≤ 256
  ·have h5i : (pat.size : Int) ≤ 256 := by omega
   rw [decide_eq_true h5] at hk;go_enter Tryz.func51, Tryz.ntmps51
   go_wp2_with fail
   refine (C1.o _).mono ?_;rintro e w1 ⟨rfl, rfl⟩
   go_wp2_with fail
   refine (C2.o _).mono ?_;rintro e w1 ⟨rfl, rfl⟩
   go_wp2_with fail
   refine (C3.o _).mono ?_;rintro e w1 ⟨rfl, rfl⟩
   go_wp2_with fail
   refine (C4.o _).mono ?_;rintro e w1 ⟨rfl, rfl⟩;go_wp2;go_ret
   exact fin (by rw [hk]; rfl) rfl
  ·have h5i : ¬ (pat.size : Int) ≤ 256 := by omega
   rw [decide_eq_false h5] at hk;go_enter Tryz.func51, Tryz.ntmps51
   go_wp2_with fail
   refine (C1.o _).mono ?_;rintro e w1 ⟨rfl, rfl⟩
   go_wp2_with fail
   refine (C2.o _).mono ?_;rintro e w1 ⟨rfl, rfl⟩
   go_wp2_with fail
   refine (C3.o _).mono ?_;rintro e w1 ⟨rfl, rfl⟩
   go_wp2_with fail
   refine (C4.o _).mono ?_;rintro e w1 ⟨rfl, rfl⟩;go_wp2;go_ret
   exact fin (by rw [hk, decide_eq_false (by omega)]; rfl) rfl
end
section
open Go.RowKit
variable {w w' : World}
theorem ÆS {l : List Ru} {k : Nat} {r : Ru} (h : l[k]? = some r) : (l.take (k + 1)).all Ru.ok = ((l.take k).all Ru.ok && r.ok) := by
 obtain ⟨hk, rfl⟩ := List.getElem?_eq_some_iff.1 h;rw [ĕ hk, List.all_append];simp
theorem Íc {l : List Ru} {k : Nat} {r : Ru} (h : l[k]? = some r) (hr : r.ok = false) : l.all Ru.ok = false := by
 rw [List.all_eq_false]
 exact ⟨r, Č h, by simp [hr]⟩
set_option maxRecDepth 100000 in
set_option maxHeartbeats 2000000 in
theorem Íd (v : Value) (l : List Ru) (w : World) (hmax : l.length ≤ 1000000) (hS : Ĭ w.heap.size w v l) :
 Calls Tryz.prog 50 #[v, .func (.func 51) #[] #[]] w fun e w' => e = .returned (.bool (l.all Ru.ok)) ∧ Below w.heap.size w w' := by
 obtain ⟨A, cap, rfl⟩ := hS.form;go_enter Tryz.func50, Tryz.ntmps50;go_wp2
 go_loopw [9] (fun i wr => ∃ k : Nat, k ≤ l.length ∧ i = .int .i64 k ∧ Hid ((l.take k).all Ru.ok = true) ∧ Below w.heap.size w wr) (fun i _ => l.length - (intOf i).toNat)
 case atStart => exact ⟨0, Ą _, rfl, rfl, ā _ _⟩
 case round =>
  obtain ⟨k, hk, rfl, HH, hbel⟩ := hrel;have hsz := hbel.size
  by_cases hlt : k < l.length
  ·obtain ⟨b, off, rfl, hb, c0, c1, c2, c3, c4⟩ := (hS.below hbel).at_ hlt
   have HG := ħ (Ā hlt);generalize l[k] = r at HG c0 c1 c2 c3 c4;cases hok : r.ok
   ·have HI := ħ hok
    clear hok
    go_wp2_with fail
    refine (Ãk r _).mono ?_;rintro e w1 ⟨rfl, hb1⟩;rw [HI.o];go_wp2;go_ret;exact ⟨î (Íc HG.o HI.o).symm, ū hbel hsz hb1⟩
   ·have HI := ħ hok
    clear hok
    go_wp2_with fail
    refine (Ãk r _).mono ?_;rintro e w1 ⟨rfl, hb1⟩;rw [HI.o];have HB := ħ (ū hbel hsz hb1);clear hb1;go_wp2;go_roundw
    case rel => exact ⟨k + 1, by omega, by go_num, ħ (by rw [ÆS HG.o, HH.o, HI.o]; rfl), HB.o⟩
    case measure => simp [intOf]; omega
  ·obtain rfl : k = l.length := by omega
   go_wp2;go_ret
   exact ⟨î (by have := HH.o; rw [Ă] at this; exact this.symm), hbel⟩
def ÂH : Int → List Ru → Bool
 | _, [] => true
 | last, r :: l => decide (last < r.id) && ÂH r.id l
theorem ÇD : ∀ {l : List Ru} {last : Int}, ÂH last l = true ↔ ÃY l ∧ ∀ r ∈ l, last < r.id
 | [], _ => by simp [ÂH]
 | r :: l, last => by
  simp only [ÂH, Bool.and_eq_true, decide_eq_true_eq, ÇD (l := l), ė, forall_eq_or_imp];constructor
  ·rintro ⟨h, h1, h2⟩
   exact ⟨List.pairwise_cons.2 ⟨h2, h1⟩, h, fun x hx => by have := h2 x hx; omega⟩
  ·rintro ⟨h1, h, _⟩
   exact ⟨h, (List.pairwise_cons.1 h1).2, (List.pairwise_cons.1 h1).1⟩
set_option maxRecDepth 100000 in
set_option maxHeartbeats 2000000 in
theorem ÎJ (v : Value) (l : List Ru) (w : World) (hmax : l.length ≤ 1000000) (hS : Ĭ w.heap.size w v l) :
 Calls Tryz.prog 52 #[v] w fun e w' => e = .returned (.bool (ÂH 0 l)) ∧ Below w.heap.size w w' := by
 obtain ⟨A, cap, rfl⟩ := hS.form;go_enter Tryz.func52, Tryz.ntmps52;go_wp2
 go_loopw [3, 8] (fun lv i wr => ∃ (k : Nat) (last : Int), k ≤ l.length ∧ i = .int .i64 k ∧ lv = .int .i64 last ∧ Hid (ÂH last (l.drop k) = ÂH 0 l) ∧ Below w.heap.size w wr) (fun _ i _ => l.length - (intOf i).toNat)
 case atStart => exact ⟨0, 0, Ą _, rfl, rfl, rfl, ā _ _⟩
 case round =>
  obtain ⟨k, last, hk, rfl, rfl, HH, hbel⟩ := hrel;have hsz := hbel.size
  by_cases hlt : k < l.length
  ·obtain ⟨b, off, rfl, hb, c0, c1, c2, c3, c4⟩ := (hS.below hbel).at_ hlt
   have HG := ħ (List.drop_eq_getElem_cons hlt);generalize l[k] = r at HG c0 c1 c2 c3 c4
   by_cases hle : r.id ≤ last
   ·go_wp2
    go_ret;refine ⟨î ?_, hbel.alloc hsz _⟩;rw [← HH.o, HG.o]
    have : ¬ last < r.id := by omega
    simp [ÂH, this]
   ·go_wp2
    go_roundw
    case rel => exact ⟨k + 1, r.id, by omega, by go_num, rfl, ħ (by
     rw [← HH.o, HG.o]
     have : last < r.id := by omega
     simp [ÂH, this]), hbel.alloc hsz _⟩
    case measure => simp [intOf]; omega
  ·obtain rfl : k = l.length := by omega
   go_wp2;go_ret
   exact ⟨î (by have := HH.o; rw [List.drop_length] at this; exact this), hbel⟩
end
section
open Go.RowKit
variable {w w' : World}
theorem Ñq (de cl fu st : Int) (rs : List Ru) : decide (RS.Ok ⟨de, cl, fu, st, rs⟩) = (decide (0 ≤ de ∧ de ≤ 255) && decide (0 ≤ cl ∧ cl ≤ 255) && decide (1 ≤ fu ∧ fu ≤ 1048576) && decide (0 ≤ st ∧ st ≤ 4096) && decide (rs.length ≤ 16) && rs.all Ru.ok && ÂH 0 rs) := by
 rw [Bool.eq_iff_iff];simp only [Bool.and_eq_true, decide_eq_true_eq, RS.Ok, RS.num, List.all_eq_true, ÇD];constructor
 ·rintro ⟨h1, h2, h3, h4⟩
  exact ⟨⟨⟨⟨⟨⟨by omega, by omega⟩, by omega⟩, by omega⟩, h2⟩, h3⟩, h4, fun r hr => by have := h3 r hr; simp only [Ru.ok, decide_eq_true_eq] at this; omega⟩
 ·rintro ⟨⟨⟨⟨⟨⟨h1, h2⟩, h3⟩, h4⟩, h5⟩, h6⟩, h7, _⟩
  exact ⟨by omega, h5, h6, h7⟩
set_option maxRecDepth 100000 in
set_option maxHeartbeats 4000000 in
theorem Èw (s : RS) (v : Value) (w : World) (hmax : s.rs.length ≤ 1000000) (hS : Ĭ w.heap.size w v s.rs) :
 Calls Tryz.prog 26 #[.agg #[.int .i64 s.de, .int .i64 s.cl, .int .i64 s.fu, .int .i64 s.st, v]] w fun e w' => e = .returned (.bool (decide s.Ok)) ∧ Below w.heap.size w w' := by
 obtain ⟨de, cl, fu, st, rs⟩ := s;simp only at hmax hS ⊢;obtain ⟨A, cap, rfl⟩ := hS.form;have hb := (ā w.heap.size w).alloc (ŋ _) (.cells #[.int .i64 de, .int .i64 cl, .int .i64 fu, .int .i64 st, .slice A rs.length cap] 59);have hx := Blk.new w 59 #[.int .i64 de, .int .i64 cl, .int .i64 fu, .int .i64 st, .slice A rs.length cap];have HB := ħ hb;have HX := ħ hx;have hS1 := hS.on ((ā w.heap.size w).alloc (ŋ _) (.cells #[.int .i64 de, .int .i64 cl, .int .i64 fu, .int .i64 st, .slice A rs.length cap] 59));have HS := ħ hS1;clear hb hx hS hS1;obtain ⟨k, hk⟩ : ∃ k, k = decide (RS.Ok ⟨de, cl, fu, st, rs⟩) := ⟨_, rfl⟩;rw [← hk];have c1 := Ő de 0 255;have c2 := Ő cl 0 255;have c3 := Ő fu 1 1048576;have c4 := Ő st 0 4096
 have c6 := fun (w : World) => Íd (.slice A rs.length cap) rs w hmax
 have c7 := fun (w : World) => ÎJ (.slice A rs.length cap) rs w hmax
 rw [Ñq] at hk;generalize decide (0 ≤ de ∧ de ≤ 255) = b1 at c1 hk;generalize decide (0 ≤ cl ∧ cl ≤ 255) = b2 at c2 hk;generalize decide (1 ≤ fu ∧ fu ≤ 1048576) = b3 at c3 hk;generalize decide (0 ≤ st ∧ st ≤ 4096) = b4 at c4 hk;generalize rs.all Ru.ok = b6 at c6 hk;generalize ÂH 0 rs = b7 at c7 hk;have C1 := ħ c1;have C2 := ħ c2;have C3 := ħ c3;have C4 := ħ c4;have C6 := ħ c6;have C7 := ħ c7;clear c1 c2 c3 c4 c6 c7
 have fin : ∀ {b : Bool} {w1 : World}, b = k → Below w.heap.size w w1 → Ending.returned (.bool b) = Ending.returned (.bool k) ∧ Below w.heap.size w w1 := fun e e' => ⟨by rw [e], e'⟩
 cases b1 with
 | false =>
  go_enter Tryz.func26, Tryz.ntmps26
  go_wp2_with fail
  refine (C1.o _).mono ?_;rintro e w1 ⟨rfl, rfl⟩;go_wp2;go_ret
  exact fin (by rw [hk]; rfl) HB.o
 | true =>
 cases b2 with
 | false =>
  go_enter Tryz.func26, Tryz.ntmps26
  go_wp2_with fail
  refine (C1.o _).mono ?_;rintro e w1 ⟨rfl, rfl⟩
  go_wp2_with fail
  refine (C2.o _).mono ?_;rintro e w1 ⟨rfl, rfl⟩;go_wp2;go_ret
  exact fin (by rw [hk]; rfl) HB.o
 | true =>
 cases b3 with
 | false =>
  go_enter Tryz.func26, Tryz.ntmps26
  go_wp2_with fail
  refine (C1.o _).mono ?_;rintro e w1 ⟨rfl, rfl⟩
  go_wp2_with fail
  refine (C2.o _).mono ?_;rintro e w1 ⟨rfl, rfl⟩
  go_wp2_with fail
  refine (C3.o _).mono ?_;rintro e w1 ⟨rfl, rfl⟩;go_wp2;go_ret
  exact fin (by rw [hk]; rfl) HB.o
 | true =>
 cases b4 with
 | false =>
  go_enter Tryz.func26, Tryz.ntmps26
  go_wp2_with fail
  refine (C1.o _).mono ?_;rintro e w1 ⟨rfl, rfl⟩
  go_wp2_with fail
  refine (C2.o _).mono ?_;rintro e w1 ⟨rfl, rfl⟩
  go_wp2_with fail
  refine (C3.o _).mono ?_;rintro e w1 ⟨rfl, rfl⟩
  go_wp2_with fail
  refine (C4.o _).mono ?_;rintro e w1 ⟨rfl, rfl⟩;go_wp2;go_ret
  exact fin (by rw [hk]; rfl) HB.o
 | true =>
 by_cases h5 : rs.length ≤ 16
 ·have h5i : (rs.length : Int) ≤ 16 := by omega
  rw [decide_eq_true h5] at hk
  cases b6 with
  | false =>
   go_enter Tryz.func26, Tryz.ntmps26
   go_wp2_with fail
   refine (C1.o _).mono ?_;rintro e w1 ⟨rfl, rfl⟩
   go_wp2_with fail
   refine (C2.o _).mono ?_;rintro e w1 ⟨rfl, rfl⟩
   go_wp2_with fail
   refine (C3.o _).mono ?_;rintro e w1 ⟨rfl, rfl⟩
   go_wp2_with fail
   refine (C4.o _).mono ?_;rintro e w1 ⟨rfl, rfl⟩
   go_wp2_with fail
   refine (C6.o _ HS.o).mono ?_;rintro e w1 ⟨rfl, hb1⟩;have hv : w1.cell? ⟨w.heap.size, 4, none⟩ = some (.slice A rs.length cap) := (HX.o.on hb1).cell 4;have HB1 := ħ (HB.o.trans (hb1.mono HB.o.size));have HS1 := ħ (HS.o.on hb1);clear hb1;go_wp2;go_ret
   exact fin (by rw [hk]; rfl) HB1.o
  | true =>
  go_enter Tryz.func26, Tryz.ntmps26
  go_wp2_with fail
  refine (C1.o _).mono ?_;rintro e w1 ⟨rfl, rfl⟩
  go_wp2_with fail
  refine (C2.o _).mono ?_;rintro e w1 ⟨rfl, rfl⟩
  go_wp2_with fail
  refine (C3.o _).mono ?_;rintro e w1 ⟨rfl, rfl⟩
  go_wp2_with fail
  refine (C4.o _).mono ?_;rintro e w1 ⟨rfl, rfl⟩
  go_wp2_with fail
  refine (C6.o _ HS.o).mono ?_;rintro e w1 ⟨rfl, hb1⟩;have hv : w1.cell? ⟨w.heap.size, 4, none⟩ = some (.slice A rs.length cap) := (HX.o.on hb1).cell 4;have HB1 := ħ (HB.o.trans (hb1.mono HB.o.size));have HS1 := ħ (HS.o.on hb1);clear hb1
  go_wp2_with fail
  refine (C7.o _ HS1.o).mono ?_;rintro e w2 ⟨rfl, hb2⟩;have HB2 := ħ (HB1.o.trans (hb2.mono HB1.o.size));clear hb2;go_wp2;go_ret
  exact fin (by rw [hk]; simp) HB2.o
 ·have h5i : ¬ (rs.length : Int) ≤ 16 := by omega
  rw [decide_eq_false h5] at hk;go_enter Tryz.func26, Tryz.ntmps26
  go_wp2_with fail
  refine (C1.o _).mono ?_;rintro e w1 ⟨rfl, rfl⟩
  go_wp2_with fail
  refine (C2.o _).mono ?_;rintro e w1 ⟨rfl, rfl⟩
  go_wp2_with fail
  refine (C3.o _).mono ?_;rintro e w1 ⟨rfl, rfl⟩
  go_wp2_with fail
  refine (C4.o _).mono ?_;rintro e w1 ⟨rfl, rfl⟩;go_wp2;go_ret;exact ⟨rfl, HB.o⟩
set_option maxRecDepth 100000 in
theorem ÇE (w : World) : Calls Tryz.prog 45 #[] w fun e w' => e = .returned (.agg #[.int .i64 0, .int .i64 255, .int .i64 10000, .int .i64 500, .slice none 0 0]) ∧ Below w.heap.size w w' := by
 go_enter Tryz.func45, Tryz.ntmps45;go_wp2
 exact bodyPost_ret (v := .agg #[.int .i64 0, .int .i64 255, .int .i64 10000, .int .i64 500, .slice none 0 0]) (by simp [results, Tryz.results45, go_sem]) rfl ⟨rfl, by first | exact (ā _ _).alloc (ŋ _) _ | skip⟩
end
section
open Go.RowKit
variable {w w' : World}
end
end Go.Proofs.YtpginkdkblmnbaaGreatDoor
