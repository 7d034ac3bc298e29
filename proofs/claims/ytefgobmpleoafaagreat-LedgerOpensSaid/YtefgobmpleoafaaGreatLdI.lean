/- Layer 13: rows of records of the call's own; the records of two logs. -/
import Derived.Test.YtefgobmpleoafaaGreatLdH
namespace Go.Proofs.YtefgobmpleoafaaGreat
open Go.RowKit
variable {w w' : World}

abbrev RcV := Rc × Value
def rcCells (L : List RcV) : List Value := L.flatMap fun x => [.int .i64 x.1.k, .int .i64 x.1.a, .int .i64 x.1.b, x.2]
theorem rcCells_append (a b : List RcV) : rcCells (a ++ b) = rcCells a ++ rcCells b := by simp [rcCells]
theorem rcCells_one (x : RcV) : rcCells [x] = [.int .i64 x.1.k, .int .i64 x.1.a, .int .i64 x.1.b, x.2] := by simp [rcCells]
theorem rcCells_len : ∀ (L : List RcV), (rcCells L).length = L.length * 4
  | [] => rfl
  | x :: L => by
    have := rcCells_len L
    show ([_, _, _, _] ++ rcCells L).length = _
    rw [List.length_append, this]
    simp
    omega
theorem rcCells_get : ∀ (L : List RcV) (i k : Nat) (x : RcV), L[i]? = some x → k < 4 → (rcCells L)[i * 4 + k]? = [Value.int .i64 x.1.k, .int .i64 x.1.a, .int .i64 x.1.b, x.2][k]?
  | [], i, k, r, h, _ => by simp at h
  | x :: l, 0, k, r, h, hk => by
    simp at h
    subst h
    rw [Nat.zero_mul, Nat.zero_add]
    show ([Value.int .i64 x.1.k, .int .i64 x.1.a, .int .i64 x.1.b, x.2] ++ rcCells l)[k]? = _
    exact List.getElem?_append_left (by simp; omega)
  | x :: l, i + 1, k, r, h, hk => by
    have := rcCells_get l i k r (by simpa using h) hk
    show ([Value.int .i64 x.1.k, .int .i64 x.1.a, .int .i64 x.1.b, x.2] ++ rcCells l)[(i + 1) * 4 + k]? = _
    rw [List.getElem?_append_right (by simp; omega), ← this]
    congr 1
    simp
    omega
/-- A row of records of the call's own, whose entries are its own too. -/
def RecsO (base : Nat) (w : World) (v : Value) (l : List Rc) : Prop :=
  ∃ L : List RcV, L.map (·.1) = l ∧ w.ownsRow base 82 4 v L.length (rcCells L) ∧ ∀ x ∈ L, (∃ A c, x.2 = .slice A x.1.log.length c) ∧ LEntV base w x.2 x.1.log
section
variable {base : Nat} {v : Value} {l : List Rc}
theorem RecsO.nil (base : Nat) (w : World) : RecsO base w (.slice none 0 0) [] := ⟨[], rfl, World.ownsRow_nil _ _ _ _, fun x h => by cases h⟩
theorem RecsO.len (h : RecsO base w v l) : ∃ A c, v = .slice A l.length c := by
  obtain ⟨L, rfl, h, _⟩ := h
  rw [List.length_map]
  exact orow_form h
theorem RecsO.lt (h : RecsO base w v l) (k : Nat) (hk : v.ownBlock = some k) : base ≤ k ∧ k < w.heap.size := by
  obtain ⟨L, rfl, h, _⟩ := h
  exact World.ownsRow.lt h k hk
theorem RecsO.keep (h : RecsO base w v l) (hk : ∀ i, i < w.heap.size → base ≤ i → w'.heap[i]? = w.heap[i]?) : RecsO base w' v l := by
  obtain ⟨L, hL, h, hx⟩ := h
  exact ⟨L, hL, own_kept h fun i h1 h2 _ => hk i h1 h2, fun x hm => ⟨(hx x hm).1, (hx x hm).2.keep hk⟩⟩
theorem RecsO.on (h : RecsO base w v l) (k : Below w.heap.size w w') : RecsO base w' v l := h.keep fun i h1 _ => k.block i h1
theorem RecsO.alloc (h : RecsO base w v l) (o : Obj) : RecsO base (w.alloc o) v l := h.keep fun i h1 _ => Below.heap_alloc w o i h1
theorem RecsO.drew (h : RecsO base w v l) : RecsO base w.drew v l := h.keep fun _ _ _ => rfl
theorem RecsO.set_ (h : RecsO base w v l) {q : Addr} (hq : q.block < base) (u : Value) : RecsO base (w.setCell q u) v l := h.keep fun i _ h2 => Below.heap_setCell _ _ _ _ (by omega)
theorem RecsO.low (h : RecsO base w v l) {b : Nat} (hb : b ≤ base) : RecsO b w v l := by
  obtain ⟨L, hL, h, hx⟩ := h
  exact ⟨L, hL, orow_low h hb, fun x hm => ⟨(hx x hm).1, (hx x hm).2.low hb⟩⟩
theorem LEntV.grownR {vr u : Value} {n : Nat} {xs : List Value} {e : List En} (h : LEntV base w u e) (h' : w.ownsRow base 82 4 vr n xs) (hg : w.grownBy w' vr.ownBlock) : LEntV base w' u e := by
  obtain ⟨L, hL, h, hx⟩ := h
  exact ⟨L, hL, own_grown h h' (by decide) hg, fun x hm => ⟨own_grown (hx x hm).1 h' (by decide) hg, own_grown (hx x hm).2 h' (by decide) hg⟩⟩
/-- One of its records, as it is read. -/
theorem RecsO.at_ {A : Option Addr} {n c k : Nat} (h : RecsO base w (.slice A n c) l) (hk : k < l.length) :
    ∃ b Al cl, A = some ⟨b, 0, none⟩ ∧ b < w.heap.size ∧ w.cell? ⟨b, k * 4, none⟩ = some (.int .i64 l[k].k) ∧ w.cell? ⟨b, k * 4 + 1, none⟩ = some (.int .i64 l[k].a) ∧ w.cell? ⟨b, k * 4 + 2, none⟩ = some (.int .i64 l[k].b) ∧ w.cell? ⟨b, k * 4 + 3, none⟩ = some (.slice Al l[k].log.length cl) ∧ LEntV base w (.slice Al l[k].log.length cl) l[k].log := by
  obtain ⟨L, rfl, h, hx⟩ := h
  rw [List.length_map] at hk
  have hg : L[k]? = some L[k] := List.getElem?_eq_getElem hk
  simp only [List.getElem_map]
  obtain ⟨⟨Al, cl, hv⟩, he⟩ := hx L[k] (List.getElem_mem _)
  rcases h.2 with ⟨_, hn⟩ | ⟨g, cap, cur, hv2, _, hh, _, _⟩
  · omega
  · injection hv2 with e1 e2 e3
    subst e1
    have c : ∀ j u, j < 4 → [Value.int .i64 L[k].1.k, .int .i64 L[k].1.a, .int .i64 L[k].1.b, L[k].2][j]? = some u → w.cell? ⟨g, k * 4 + j, none⟩ = some u := fun j u hj hu => by
      have := h.cells (g := g) rfl _ _ ((rcCells_get L k j _ hg hj).trans hu)
      have hadd : (⟨g, 0, none⟩ : Addr).add (k * 4 + j) = ⟨g, k * 4 + j, none⟩ := by unfold Addr.add; split <;> simp_all
      rwa [hadd] at this
    rw [hv] at he c
    have q0 := c 0 _ (by omega) rfl
    have q1 := c 1 _ (by omega) rfl
    have q2 := c 2 _ (by omega) rfl
    have q3 := c 3 _ (by omega) rfl
    rw [Nat.add_zero] at q0
    exact ⟨g, Al, cl, rfl, lt_of_some hh, q0, q1, q2, q3, he⟩
end
theorem info_rec13 : (Tryz.prog.info? 82).map (fun i => (i.zero, i.size, i.bytes)) = some (some (.agg #[.int .i64 0, .int .i64 0, .int .i64 0, .slice none 0 0]), 4, 48) := by kernel_rfl
set_option maxRecDepth 100000 in
/-- append of one record in a block of its own. -/
theorem wpList_append_rec (w : World) {ops : Array Oper} {rest : List Oper} {o : Oper} {a : Act} {Q : Exit → Act → World → Prop} (hgd : o.guard = none) (x y : Operand)
    (ho : o.op = .call { callee := .builtin .append, args := #[x, y], argTypes := #[64, 64] })
    (base : Nat) (v : Value) (l : List Rc) (hs : a.eval x = v) (hown : RecsO base w v l) (b c : Nat) (r : Rc) (A : Option Addr) (d : Nat) (hy : a.eval y = .slice (some ⟨b, 0, none⟩) 1 c)
    (hr : Blk w b 82 #[.int .i64 r.k, .int .i64 r.a, .int .i64 r.b, .slice A r.log.length d]) (he : LEntV base w (.slice A r.log.length d) r.log) (h63 : l.length + 1 ≤ 1000000) (hbase : base ≤ w.heap.size)
    (h : ∀ v' w', RecsO base w' v' (l ++ [r]) → w.grownBy w' v.ownBlock → wpList Tryz.prog ops Q rest (a.put o.dst v') w') : wpList Tryz.prog ops Q (o :: rest) a w := by
  obtain ⟨i0, hi, hz0, hz1, hz2⟩ := info_three info_rec13
  obtain ⟨L, rfl, ho', hx⟩ := hown
  rw [List.length_map] at h63
  refine wpList_append_gen w hgd x y 64 ho base 82 i0 _ 4 48 Tryz.underlying64 hi hz0 hz1 hz2 rfl (by decide) v L.length (rcCells L) hs ho' (some ⟨b, 0, none⟩) 1 c [.int .i64 r.k, .int .i64 r.a, .int .i64 r.b, .slice A r.log.length d] hy rfl (fun h => by cases h) (fun ad ha j u hu => ?_) (fun u hu => ?_) (by unfold maxLen; omega) (by omega) hbase (fun v' w' h2 h3 => h v' w' ⟨L ++ [(r, .slice A r.log.length d)], by simp, by rw [List.length_append, rcCells_append, rcCells_one]; exact h2, fun x hm => ?_⟩ h3)
  · obtain rfl := Option.some.inj ha
    have hadd : (⟨b, 0, none⟩ : Addr).add j = ⟨b, 0 + j, none⟩ := by unfold Addr.add; split <;> simp_all
    rw [hadd, Nat.zero_add, hr.cell j, ← hu, ← List.getElem?_toArray]
  · simp at hu
    rcases hu with rfl | rfl | rfl | rfl <;> rfl
  · rcases List.mem_append.1 hm with hm | hm
    · exact ⟨(hx x hm).1, LEntV.grownR (hx x hm).2 ho' h3⟩
    · obtain rfl := List.mem_singleton.1 hm
      exact ⟨⟨A, d, rfl⟩, LEntV.grownR he ho' h3⟩
end Go.Proofs.YtefgobmpleoafaaGreat
