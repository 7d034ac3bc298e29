import Derived.RangeFuncBox
import Derived.RangeFuncLeaves
import Derived.Shelf.Abstract
import Derived.WalkKit
import Derived.OwnWalkIn
import Derived.TacticsInMore
import Derived.LoopNIn
import Derived.LoopIn
import Derived.Maps.AppendAt
import Derived.Maps.OwnIn
import Derived.Sort.MapsRangeIn
import Derived.Outline
import Derived.Test.YtpginkdkblmnbaaGreatDoorWMRa
import Derived.RangeFuncFrom
import Derived.RangeFuncKeeps
import Derived.Shelf.SlGeneric
import Derived.Shelf.SlSortCmp.WholeK
import Derived.Ground.SlsfProg
import Derived.Test.YtpginkdkblmnbaaGreatDoorWMClasses
import Derived.Shelf.SlSortCmp.NoneTotal
import Derived.Maps.OwnSet
import Derived.Maps.OwnOps
namespace Go.Proofs.YtpginkdkblmnbaaGreatDoor
section
open Go.RowKit Go.Shelf Go.Maps
attribute [local go_sem] Oper.semAt_some
def ÐS (L : List Ru) (left : Lit → Bool) (ss : List Ru) : Prop := ss.Nodup ∧ ∀ y, y ∈ ss ↔ y ∈ L ∧ left (.int .i64 y.id) = false
theorem ÐS.step {L : List Ru} {left : Lit → Bool} {ss : List Ru} {x : Ru} {k : Int} (hL : ÃY L) (h : ÐS L left ss) (hl : left (.int .i64 k) = true) (hx : x ∈ L) (e : x.id = k) : ÐS L (fun z => left z && !z.sameKey (.int .i64 k)) (ss ++ [x]) := by
 subst e
 refine ⟨?_, fun y => ?_⟩
 ·rw [List.nodup_append]
  refine ⟨h.1, by simp, fun a ha b hb e => ?_⟩
  rw [List.mem_singleton.1 hb] at e;subst e;have := ((h.2 a).1 ha).2;rw [hl] at this;cases this
 ·rw [Ė, Ĉ, h.2 y]
  simp only [Lit.sameKey, Bool.and_eq_false_iff, Bool.not_eq_eq_eq_not, Bool.not_false, decide_eq_true_eq, true_and];constructor
  ·rintro (⟨h1, h2⟩ | rfl)
   ·exact ⟨h1, .inl h2⟩
   ·exact ⟨hx, .inr rfl⟩
  ·rintro ⟨h1, h2 | h2⟩
   ·exact .inl ⟨h1, h2⟩
   ·exact .inr (ÎI hL h1 hx h2)
end
section
open Go.RowKit
section
variable {F : Fence} {n : Nat} {P : Program}
end
end
section
open Go.RowKit Go.Shelf
attribute [local go_sem] Oper.semAt_some
end
end Go.Proofs.YtpginkdkblmnbaaGreatDoor
namespace Go.Proofs
open Go.Shelf
end Go.Proofs
namespace Go.Proofs.YtpginkdkblmnbaaGreatDoor
section
open Go.RowKit Go.Shelf Go.Lib
instance : Inhabited Ru := ⟨Ru.none⟩
theorem Æa (d : Array Ru) (j : Nat) (h : j < d.size * 5) : some (Sort.flatK Ru.cells 5 d)[j]! = d[j / 5]!.cells[j % 5]? := by
 rw [Sort.get_flatK _ _ _ _ h]
 have : j % 5 < (d[j / 5]!).cells.length := by simp [Ru.cells]; omega
 rw [Ā this, getElem!_pos (d[j / 5]!).cells (j % 5) this]
theorem Ãi (d : Array Ru) (i : Nat) (r : Ru) (h : d.toList[i]? = some r) : i < d.size ∧ d[i]! = r := by
 obtain ⟨hi, rfl⟩ := List.getElem?_eq_some_iff.1 h
 have hi' : i < d.size := by simpa using hi
 exact ⟨hi', by rw [getElem!_pos d i hi']; simp⟩
theorem Âo (w : World) (base g n : Nat) (d : Array Ru) (os : Array Obj) (hg : base ≤ g) (hb : base ≤ w.heap.size) : Below base w (sortWorldK Ru.cells 5 w g 0 n d os) := by
 refine ⟨rfl, rfl, rfl, size_sortWorldK_c Ru.cells 5 w g 0 n d os, fun k hk => ?_⟩
 unfold sortWorldK
 rw [Sort.heap_grow_old _ _ (by rw [Sort.size_putRowK]; show k < w.heap.size; omega)]
 unfold Sort.putRowK Sort.putRow Sort.mapBlock;simp only [Sort.heap_ahead]
 rw [Array.getElem?_modify, if_neg (by omega)]
end
section
open Go.RowKit Go.Shelf
def Far (base : Nat) (v : Value) : Prop := ∀ b, v.ownBlock = some b → base ≤ b
theorem Ãa.far {w : World} {base : Nat} {e : TypeId} {v : Value} {l : List Ru} (h : Ãa w base e v l) : Far base v := fun b hb => (World.ownsRow.lt h b hb).1
end
section
open Go.RowKit Go.Maps
variable {w w' : World}
theorem Row.form {n₀ : Nat} {v : Value} {xs : List Value} (h : Row n₀ w v xs) : ∃ A cap, v = .slice A xs.length cap := by
 obtain ⟨A, cap, hv, _⟩ := h;exact ⟨A, cap, hv⟩
theorem Row.at_ {n₀ n cap k : Nat} {A : Option Addr} {l : List Int} (h : Row n₀ w (.slice A n cap) (zI l)) (hk : k < l.length) :
 ∃ b off, A = some ⟨b, off, none⟩ ∧ b < n₀ ∧ w.cell? ⟨b, off + k, none⟩ = some (.int .i64 l[k]) := by
 obtain ⟨A', cap', hv, _, h⟩ := h
 have : A = A' := by injection hv
 subst this
 obtain ⟨b, off, hA, hb, ht⟩ := h (by intro e; have := congrArg List.length e; simp [zI] at this; rw [this] at hk; simp at hk)
 exact ⟨b, off, hA, hb, ht k _ (ÐR (Ā hk))⟩
end
section
open Go.RowKit Go.Maps
variable {w w' : World}
section
variable {s : RS} {d : Dl}
end
theorem Far.mono {a b : Nat} {v : Value} (h : Far a v) (hb : b ≤ a) : Far b v := fun k hk => ē hb (h k hk)
theorem Far.nil (a : Nat) : Far a (.slice none 0 0) := fun b h => by simp [Value.ownBlock] at h
theorem Ĭ.store {n base g i : Nat} {v u : Value} {l : List Ru} (h : Ĭ n w v l) (hf : Far base v) (hg : g < base) : Ĭ n (w.setCell ⟨g, i, none⟩ u) v l := by
 obtain ⟨A, cap, rfl, hc, h⟩ := h
 refine ⟨A, cap, rfl, hc, fun hs => ?_⟩
 obtain ⟨b, off, rfl, hb, ht⟩ := h hs;have hbb := hf b rfl
 have hne : b ≠ g := by omega
 have e : ∀ o, (w.setCell ⟨g, i, none⟩ u).cell? ⟨b, o, none⟩ = w.cell? ⟨b, o, none⟩ := fun o => by
  have := Below.heap_setCell w ⟨g, i, none⟩ u b hne;unfold World.cell?;rw [this]
 exact ⟨b, off, rfl, hb, fun j r hr => by
  obtain ⟨h0, h1, h2, h3, h4⟩ := ht j r hr
  exact ⟨(e _).trans h0, (e _).trans h1, (e _).trans h2, (e _).trans h3, (e _).trans h4⟩⟩
theorem Blk.c5 {g : Nat} {t : TypeId} {x0 x1 x2 x3 x4 : Value} (h : Blk w g t #[x0, x1, x2, x3, x4]) : w.cell? ⟨g, 0, none⟩ = some x0 ∧ w.cell? ⟨g, 1, none⟩ = some x1 ∧ w.cell? ⟨g, 2, none⟩ = some x2 ∧ w.cell? ⟨g, 3, none⟩ = some x3 ∧ w.cell? ⟨g, 4, none⟩ = some x4 :=
 ⟨h.cell 0, h.cell 1, h.cell 2, h.cell 3, h.cell 4⟩
theorem Blk.c6 {g : Nat} {t : TypeId} {x0 x1 x2 x3 x4 x5 : Value} (h : Blk w g t #[x0, x1, x2, x3, x4, x5]) : w.cell? ⟨g, 0, none⟩ = some x0 ∧ w.cell? ⟨g, 1, none⟩ = some x1 ∧ w.cell? ⟨g, 2, none⟩ = some x2 ∧ w.cell? ⟨g, 3, none⟩ = some x3 ∧ w.cell? ⟨g, 4, none⟩ = some x4 ∧ w.cell? ⟨g, 5, none⟩ = some x5 :=
 ⟨h.cell 0, h.cell 1, h.cell 2, h.cell 3, h.cell 4, h.cell 5⟩
theorem Blk.f5 {g : Nat} {t : TypeId} {cs : Array Value} (h : Blk w g t cs) : w.frozen? ⟨g, 0, none⟩ = false ∧ w.frozen? ⟨g, 1, none⟩ = false ∧ w.frozen? ⟨g, 2, none⟩ = false ∧ w.frozen? ⟨g, 3, none⟩ = false ∧ w.frozen? ⟨g, 4, none⟩ = false :=
 ⟨h.frozen 0, h.frozen 1, h.frozen 2, h.frozen 3, h.frozen 4⟩
theorem Blk.at_new (w : World) (g : Nat) (hg : g = w.heap.size) (t : TypeId) (cs : Array Value) : Blk (w.alloc (.cells cs t)) g t cs := by
 subst hg;exact Blk.new _ _ _
theorem ÏP {l : List Ru} {k : Nat} {r : Ru} (h : l[k]? = some r) : l.take (k + 1) = l.take k ++ [r] := by
 obtain ⟨hk, rfl⟩ := List.getElem?_eq_some_iff.1 h;rw [ĕ hk]
end
section
open Go.RowKit Go.Maps
variable {w w' : World}
end
end Go.Proofs.YtpginkdkblmnbaaGreatDoor
